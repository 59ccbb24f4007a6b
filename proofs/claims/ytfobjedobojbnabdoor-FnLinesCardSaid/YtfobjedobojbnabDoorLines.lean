/- Contracts: l01Cut, SplitLines of the model and of the program. Condition: the string is not longer than the law lets it be. -/
import Derived.Test.YtfobjedobojbnabDoorSplit
import Derived.Test.YtfobjedobojbnabDoorLinesPlain
namespace Go.Proofs.YtfobjedobojbnabDoor
open Go Go.RowKit

set_option maxHeartbeats 2000000 in
set_option maxRecDepth 100000 in
theorem l01Cut_any (s : ByteArray) (W : World) (hs : s.size ≤ 1048576) :
    Calls Tryd.prog 56 #[.string s, .int .u8 10] W (Rets W (cutE s 10 0 0 s.size)) := by
  obtain ⟨i0, hi0, hz0, hz1, hz2⟩ := info_parts strInfo
  have hb := PlainAid.get_bt s
  go_enter Tryd.func56, Tryd.ntmps56
  go_wp2_with fail
  go_loopw [5, 6, 7] (fun v a i wr => ∃ (k b : Nat) (xs : List ByteArray), k ≤ s.size ∧ b ≤ k ∧ a = .int .i64 b ∧ i = .int .i64 k ∧ Hid (wr.ownsRow W.heap.size 9 1 v xs.length (xs.map Value.string)) ∧ xs.length ≤ b ∧
      Hid (xs ++ cutE s 10 b k s.size = cutE s 10 0 0 s.size) ∧ Hid (Below W.heap.size W wr)) (fun _ _ i _ => s.size - (intOf i).toNat)
  case atStart => exact ⟨0, 0, [], Nat.zero_le _, Nat.le_refl _, rfl, rfl, World.ownsRow_lit W #[] 0 (Nat.le_refl _) (by decide) rfl, Nat.le_refl _, rfl, (Below.refl _ _).alloc (Nat.le_refl _) _⟩
  case round =>
    obtain ⟨k, b, xs, hk, hbk, rfl, rfl, HO, hx, HE, HW⟩ := hrel
    by_cases hlt : k < s.size
    · have b0 := PlainAid.bt_nonneg s k
      have b1 := PlainAid.bt_le s k
      by_cases h2 : PlainAid.bt s k = 10
      · have d3 : (PlainAid.bt s k == 10) = true := by simpa using h2
        have HS : Hid (cutE s 10 b k s.size = s.extract b k :: cutE s 10 (k + 1) (k + 1) s.size) := cutE_cut hlt h2
        clear h2
        go_wp2_with (at_builtin; refine wpList_append_own _ rfl _ _ 46 rfl W.heap.size 9 i0 (.string ByteArray.empty) 1 16 Tryd.underlying46 hi0 hz0 hz1 hz2 rfl (by decide) _ _ _ rfl (HO.out.alloc _) ⟨wr.heap.size, 0, none⟩ 1 1 [.string (s.extract b k)] rfl rfl (cell_one_new _ _ _) (fun x hx => by simp at hx; subst hx; rfl) (by unfold maxLen; omega) (by omega) (by have := HW.out.size; simp; omega) ?_; intro v1 w1 hown1 hgr1 _)
        go_roundw
        case rel =>
          refine ⟨k + 1, k + 1, xs ++ [s.extract b k], by omega, by omega, by go_num, by go_num, ?_, by simp; omega, ?_, ?_⟩
          · exact Lib.hid (by simpa using hown1)
          · show _ = _
            rw [List.append_assoc, List.singleton_append, ← HS.out]
            exact HE.out
          · exact (HW.out.alloc HW.out.size _).grown hgr1 (by have := HW.out.size; simp; omega) (own_ge HO.out)
        case measure => simp [intOf]; omega
      · have d3 : (PlainAid.bt s k == 10) = false := by simpa using h2
        have HS : Hid (cutE s 10 b k s.size = cutE s 10 b (k + 1) s.size) := cutE_plain hlt h2
        clear h2
        go_wp2_with fail
        go_roundw
        case rel => exact ⟨k + 1, b, xs, by omega, by omega, rfl, by go_num, HO, hx, by rw [← HS.out]; exact HE, HW⟩
        case measure => simp [intOf]; omega
    · have HS : Hid (cutE s 10 b k s.size = [s.extract b s.size]) := cutE_end hlt |>.trans rfl
      go_wp2_with (at_builtin; refine wpList_append_own _ rfl _ _ 46 rfl W.heap.size 9 i0 (.string ByteArray.empty) 1 16 Tryd.underlying46 hi0 hz0 hz1 hz2 rfl (by decide) _ _ _ rfl (HO.out.alloc _) ⟨wr.heap.size, 0, none⟩ 1 1 [.string (s.extract b s.size)] rfl rfl (cell_one_new _ _ _) (fun x hx => by simp at hx; subst hx; rfl) (by unfold maxLen; omega) (by omega) (by have := HW.out.size; simp; omega) ?_; intro v1 w1 hown1 hgr1 _)
      go_ret
      have hE : cutE s 10 0 0 s.size = xs ++ [s.extract b s.size] := by rw [← HE.out, HS.out]
      rw [hE]
      refine rets_own (by simp) (by simpa using hown1) ?_
      exact (HW.out.alloc HW.out.size _).grown hgr1 (by have := HW.out.size; simp; omega) (own_ge HO.out)

set_option maxHeartbeats 2000000 in
theorem spec_SplitLines_any (s : ByteArray) (W : World) (hs : s.size ≤ 1048576) (h0 : 0 < s.size) :
    Calls Tryd.prog 25 #[.string s] W (Rets W (linesOf s)) := by
  have HS : Hid (s.size ≤ 1048576) := hs
  by_cases hnl : PlainAid.bt s (s.size - 1) = 10
  · have HE : Hid (cutE s 10 0 0 s.size = linesOf s ++ [⟨#[]⟩]) := linesOf_nl h0 hnl
    have hl := linesOf_length s
    generalize linesOf s = xs at HE hl ⊢
    clear hnl
    go_enter Tryd.func25, Tryd.ntmps25
    go_wp2_with (go_at_call 56; refine (l01Cut_any _ _ HS.out).mono ?_; rintro e w1 ⟨g, c, cs, rfl, hg, hB, hl0, hcap, hx0, hb0⟩; rw [HE.out] at hl0 hcap hx0 ⊢; rw [List.length_append, List.length_singleton] at hl0 hcap ⊢; have hc := (hB.cell xs.length).trans (hx0 xs.length ⟨#[]⟩ (by simp)); have F : Hid (W.heap.size ≤ g ∧ SB w1 g cs ∧ xs.length + 1 ≤ cs.size ∧ (∀ (j : Nat) (x : ByteArray), xs[j]? = some x → cs[j]? = some (Value.string x)) ∧ Below W.heap.size W w1) := ⟨hg, hB, hl0, (fun j x hx => hx0 j x (by rw [List.getElem?_append_left (List.getElem?_eq_some_iff.1 hx).1]; exact hx)), hb0⟩; have hcap' : xs.length ≤ c := (by omega); have hcap2 : (xs.length : Int) ≤ (c : Int) := (by omega); clear hg hB hl0 hx0 hb0 hcap)
    go_ret
    obtain ⟨hg, hB, hl0, hx0, hb0⟩ := F.out
    exact ⟨g, c, cs, rfl, hg, hB, by omega, hcap', hx0, hb0⟩
  · have HE : Hid (cutE s 10 0 0 s.size = linesOf s) := by unfold linesOf; rw [if_neg hnl]; rfl
    have hne : ∃ x, (linesOf s).getLast? = some x ∧ 0 < x.size := by
      rw [← HE.out]
      exact cutE_nonempty h0 (Nat.le_refl _) hnl s.size 0 0 (by omega) (Nat.le_refl _) (by omega) (by omega)
    have hl := linesOf_length s
    generalize linesOf s = xs at HE hl hne ⊢
    obtain ⟨x, hx1, hx2⟩ := hne
    rw [List.getLast?_eq_getElem?] at hx1
    obtain ⟨n, hn⟩ : ∃ n, xs.length = n + 1 := ⟨xs.length - 1, by omega⟩
    rw [show xs.length - 1 = n by omega] at hx1
    have e1 := ne_nil_of_size hx2
    have e2 := not_isEmpty_of_size hx2
    have HN := Lib.hid hn
    have HX1 := Lib.hid hx1
    have hnb : n ≤ 1048577 := by omega
    clear hnl hn hx1 hx2
    go_enter Tryd.func25, Tryd.ntmps25
    go_wp2_with (go_at_call 56; refine (l01Cut_any _ _ HS.out).mono ?_; rintro e w1 ⟨g, c, cs, rfl, hg, hB, hl0, hcap, hx0, hb0⟩; rw [HE.out] at hl0 hcap hx0 ⊢; have hc := (hB.cell n).trans (hx0 n x HX1.out); have F : Hid (W.heap.size ≤ g ∧ SB w1 g cs ∧ xs.length ≤ cs.size ∧ xs.length ≤ c ∧ (∀ (j : Nat) (x : ByteArray), xs[j]? = some x → cs[j]? = some (Value.string x)) ∧ Below W.heap.size W w1) := ⟨hg, hB, hl0, hcap, hx0, hb0⟩; rw [HN.out]; clear hg hB hl0 hx0 hb0 hcap)
    go_ret
    obtain ⟨hg, hB, hl0, hcap, hx0, hb0⟩ := F.out
    exact ⟨g, c, cs, by rw [HN.out]; rfl, hg, hB, hl0, hcap, hx0, hb0⟩

theorem trim_any (s : ByteArray) (W : World) (hs : s.size ≤ 1048576) :
    Calls Tryd.prog 62 #[.string s, .string ⟨#[10]⟩] W fun e w' => e = .returned (.string (trimmed s)) ∧ W = w' :=
  (Tryd.strings_TrimSuffix s ⟨#[10]⟩ W (by omega)).mono fun _ _ ⟨h1, h2⟩ => ⟨h1, h2.symm⟩

theorem split_any (t : ByteArray) (m : Int) (W : World) (hs : t.size ≤ 1048576) (hm : W.cell? ⟨1, 0, none⟩ = some (.int .i64 m)) :
    Calls Tryd.prog 61 #[.string t, .string ⟨#[10]⟩] W (Rets W (Lib.splitB ⟨#[10]⟩ 0 (Lib.countB t ⟨#[10]⟩) t)) := by
  refine (Tryd.strings_Split t ⟨#[10]⟩ m W (by omega) hm (by decide)).mono fun e w' ⟨he, hw⟩ => ?_
  have hl := split_len 10 t.size t (Nat.le_refl _)
  refine ⟨W.heap.size, _, _, by rw [he, hl], Nat.le_refl _, by rw [hw]; exact heap_alloc_new W _, by simp, by omega, fun j x hx => by simp [hx], by rw [hw]; exact (Below.refl _ _).alloc (Nat.le_refl _) _⟩

theorem impl_SplitLines_any (s : ByteArray) (m : Int) (W : World) (hs : s.size ≤ 1048576) (h0 : 0 < s.size) (hm : W.cell? ⟨1, 0, none⟩ = some (.int .i64 m)) :
    Calls Tryd.prog 32 #[.string s] W (Rets W (linesOf s)) := by
  have HS : Hid (s.size ≤ 1048576) := hs
  have HM := Lib.hid hm
  have HT : Hid ((trimmed s).size ≤ 1048576) := Nat.le_trans (trimmed_size s) hs
  have HE : Hid (Lib.splitB ⟨#[10]⟩ 0 (Lib.countB (trimmed s) ⟨#[10]⟩) (trimmed s) = linesOf s) := split_trimmed h0
  have e1 := ne_nil_of_size h0
  have e2 := not_isEmpty_of_size h0
  obtain ⟨t, ht⟩ : ∃ t, trimmed s = t := ⟨_, rfl⟩
  have HTT := Lib.hid ht
  rw [ht] at HT HE
  clear ht hm
  go_enter Tryd.func32, Tryd.ntmps32
  go_wp2_with (first
    | (go_at_call 62; refine (trim_any _ _ HS.out).mono ?_; rintro e w' ⟨rfl, rfl⟩; rw [HTT.out])
    | (go_at_call 61; refine (split_any _ _ _ HT.out HM.out).mono ?_; intro e w1 hr; rw [HE.out] at hr; obtain ⟨g, c, cs, rfl, hr⟩ := hr; have HR := Lib.hid hr; clear hr))
  go_ret
  exact ⟨g, c, cs, rfl, HR.out⟩

theorem spec_SplitLines_nil (W : World) : Calls Tryd.prog 25 #[.string ⟨#[]⟩] W fun e w' => (∃ A c, e = .returned (.slice A 0 c)) ∧ Below W.heap.size W w' := by
  have HE : Hid (cutE ⟨#[]⟩ 10 0 0 (⟨#[]⟩ : ByteArray).size = [⟨#[]⟩]) := cutE_end (by decide)
  go_enter Tryd.func25, Tryd.ntmps25
  go_wp2_with (go_at_call 56; refine (l01Cut_any _ _ (by decide)).mono ?_; rintro e w1 ⟨g, c, cs, rfl, hg, hB, hl0, hcap, hx0, hb0⟩; rw [HE.out] at hl0 hcap hx0 ⊢; have hc := (hB.cell 0).trans (hx0 0 ⟨#[]⟩ rfl); have F := Lib.hid hb0; have hcap2 : (0 : Int) ≤ (c : Int) := (by omega); clear hg hB hl0 hx0 hb0 hcap)
  go_ret
  exact ⟨⟨_, _, rfl⟩, F.out⟩
theorem impl_SplitLines_nil (W : World) : Calls Tryd.prog 32 #[.string ⟨#[]⟩] W fun e w' => e = .returned (.slice none 0 0) ∧ W = w' := by
  go_enter Tryd.func32, Tryd.ntmps32
  go_wp2_with fail
  go_ret
  exact ⟨rfl, rfl⟩
end Go.Proofs.YtfobjedobojbnabDoor
