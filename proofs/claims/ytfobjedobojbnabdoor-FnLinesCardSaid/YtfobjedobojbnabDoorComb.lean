/- Contracts: IsComment, IsContinuation of the model and of the program; combineLines of the program. No condition. -/
import Derived.Test.YtfobjedobojbnabDoorLnsOwn
import Derived.Test.YtfobjedobojbnabDoorRowO0
import Derived.Deep.QuietTactic
import Derived.BigQuiet
import Derived.StillTailTactics
namespace Go.Proofs.YtfobjedobojbnabDoor
open Go Go.RowKit

theorem spec_IsComment_any (s : ByteArray) (W : World) (hs : s.size ≤ maxLen) :
    Calls Tryd.prog 27 #[.string s] W fun e w' => e = .returned (.bool (s.size != 0 && PlainAid.bt s 0 == 42)) ∧ W = w' := by
  unfold maxLen at hs
  have hb := PlainAid.get_bt s
  by_cases h0 : s.size = 0
  · have e1 := nil_of_size h0
    have e2 := isEmpty_of_size h0
    have e3 : (s.size != 0 && PlainAid.bt s 0 == 42) = false := by simp [h0]
    rw [e3]
    clear e3
    go_enter Tryd.func27, Tryd.ntmps27
    go_wp2
    all_goals go_ret
    all_goals exact ⟨rfl, rfl⟩
  · have hp : 0 < s.size := by omega
    have e1 := ne_nil_of_size hp
    have e2 := not_isEmpty_of_size hp
    have e3 := ext_one s 42 hp
    obtain ⟨z, hz⟩ : ∃ z, (PlainAid.bt s 0 == 42) = z := ⟨_, rfl⟩
    have e6 : (s.size != 0 && PlainAid.bt s 0 == 42) = z := by rw [hz]; simp [h0]
    have e5 : ((s.extract 0 1).toList == [42]) = z := by rw [e3]; exact hz
    rw [e6]
    clear e3 e6 h0
    cases z
    all_goals
      go_enter Tryd.func27, Tryd.ntmps27
      go_wp2
      all_goals go_ret
      all_goals exact ⟨rfl, rfl⟩
theorem impl_IsComment_any (s : ByteArray) (W : World) (hs : s.size ≤ maxLen) :
    Calls Tryd.prog 59 #[.string s] W fun e w' => e = .returned (.bool (s.size != 0 && PlainAid.bt s 0 == 42)) ∧ W = w' := by
  unfold maxLen at hs
  have hb := PlainAid.get_bt s
  by_cases h0 : s.size = 0
  · have e1 := nil_of_size h0
    have e2 := isEmpty_of_size h0
    have e3 : (s.size != 0 && PlainAid.bt s 0 == 42) = false := by simp [h0]
    rw [e3]
    clear e3
    go_enter Tryd.func59, Tryd.ntmps59
    go_wp2
    all_goals go_ret
    all_goals exact ⟨rfl, rfl⟩
  · have hp : 0 < s.size := by omega
    have e1 := ne_nil_of_size hp
    have e2 := not_isEmpty_of_size hp
    have e3 := ext_one s 42 hp
    obtain ⟨z, hz⟩ : ∃ z, (PlainAid.bt s 0 == 42) = z := ⟨_, rfl⟩
    have e6 : (s.size != 0 && PlainAid.bt s 0 == 42) = z := by rw [hz]; simp [h0]
    have e5 : ((s.extract 0 1).toList == [42]) = z := by rw [e3]; exact hz
    rw [e6]
    clear e3 e6 h0
    cases z
    all_goals
      go_enter Tryd.func59, Tryd.ntmps59
      go_wp2
      all_goals go_ret
      all_goals exact ⟨rfl, rfl⟩
theorem spec_IsContinuation_any (s : ByteArray) (W : World) (hs : s.size ≤ maxLen) :
    Calls Tryd.prog 28 #[.string s] W fun e w' => e = .returned (.bool (s.size != 0 && PlainAid.bt s 0 == 43)) ∧ W = w' := by
  unfold maxLen at hs
  have hb := PlainAid.get_bt s
  by_cases h0 : s.size = 0
  · have e1 := nil_of_size h0
    have e2 := isEmpty_of_size h0
    have e3 : (s.size != 0 && PlainAid.bt s 0 == 43) = false := by simp [h0]
    rw [e3]
    clear e3
    go_enter Tryd.func28, Tryd.ntmps28
    go_wp2
    all_goals go_ret
    all_goals exact ⟨rfl, rfl⟩
  · have hp : 0 < s.size := by omega
    have e1 := ne_nil_of_size hp
    have e2 := not_isEmpty_of_size hp
    have e3 := ext_one s 43 hp
    obtain ⟨z, hz⟩ : ∃ z, (PlainAid.bt s 0 == 43) = z := ⟨_, rfl⟩
    have e6 : (s.size != 0 && PlainAid.bt s 0 == 43) = z := by rw [hz]; simp [h0]
    have e5 : ((s.extract 0 1).toList == [43]) = z := by rw [e3]; exact hz
    rw [e6]
    clear e3 e6 h0
    cases z
    all_goals
      go_enter Tryd.func28, Tryd.ntmps28
      go_wp2
      all_goals go_ret
      all_goals exact ⟨rfl, rfl⟩
theorem impl_IsContinuation_any (s : ByteArray) (W : World) (hs : s.size ≤ maxLen) :
    Calls Tryd.prog 60 #[.string s] W fun e w' => e = .returned (.bool (s.size != 0 && PlainAid.bt s 0 == 43)) ∧ W = w' := by
  unfold maxLen at hs
  have hb := PlainAid.get_bt s
  by_cases h0 : s.size = 0
  · have e1 := nil_of_size h0
    have e2 := isEmpty_of_size h0
    have e3 : (s.size != 0 && PlainAid.bt s 0 == 43) = false := by simp [h0]
    rw [e3]
    clear e3
    go_enter Tryd.func60, Tryd.ntmps60
    go_wp2
    all_goals go_ret
    all_goals exact ⟨rfl, rfl⟩
  · have hp : 0 < s.size := by omega
    have e1 := ne_nil_of_size hp
    have e2 := not_isEmpty_of_size hp
    have e3 := ext_one s 43 hp
    obtain ⟨z, hz⟩ : ∃ z, (PlainAid.bt s 0 == 43) = z := ⟨_, rfl⟩
    have e6 : (s.size != 0 && PlainAid.bt s 0 == 43) = z := by rw [hz]; simp [h0]
    have e5 : ((s.extract 0 1).toList == [43]) = z := by rw [e3]; exact hz
    rw [e6]
    clear e3 e6 h0
    cases z
    all_goals
      go_enter Tryd.func60, Tryd.ntmps60
      go_wp2
      all_goals go_ret
      all_goals exact ⟨rfl, rfl⟩

/-- What combineLines hands back. -/
def RetsC (W : World) (r : List Lin × Nat) (e : Ending) (w' : World) : Prop :=
  ∃ A c, e = Ending.returned (.tuple #[Value.slice A r.1.length c, .int .i64 (r.2 : Int)]) ∧ RowL w' W.heap.size w'.heap.size A r.1 ∧ Below W.heap.size W w'

set_option maxHeartbeats 4000000 in
set_option maxRecDepth 100000 in
theorem combineLines_any (A : Option Addr) (n c : Nat) (ls : List ByteArray) (W : World) (hr : SR W W.heap.size A n ls) (hn : n ≤ 121) (hs : ∀ (j : Nat) (t : ByteArray), ls[j]? = some t → t.size ≤ 4000) :
    Calls Tryd.prog 31 #[.slice A n c] W (RetsC W (combT ls 0 [])) := by
  obtain ⟨i0, hi0, hz0, hz1, hz2⟩ := info_parts linInfo
  have HR := Lib.hid hr
  have HSZ := Lib.hid hs
  have h1 : (n : Int) ≤ 121 := by omega
  clear hr hs
  go_enter Tryd.func31, Tryd.ntmps31
  go_wp2_with fail
  go_loopw [4, 11] (fun v i wr => ∃ (k : Nat) (acc : List Lin), k ≤ n ∧ i = .int .i64 k ∧ Hid (OwnL wr W.heap.size v acc) ∧ acc.length ≤ k ∧ Hid (bytesL acc ≤ 4000 * k) ∧ Hid (combT (ls.drop k) k acc = combT ls 0 []) ∧ Hid (Below W.heap.size W wr)) (fun _ i _ => n - (intOf i).toNat)
  case atStart => exact ⟨0, [], Nat.zero_le _, rfl, World.ownsRow_nil _ _ _ _, Nat.zero_le _, Nat.zero_le _, rfl, Below.refl _ _⟩
  case round =>
    obtain ⟨k, acc, hk, rfl, HO, hx, HBY, HE, HW⟩ := hrel
    by_cases hlt : k < n
    · have hl : Hid (k < ls.length) := by have := HR.out.1; show _ < _; omega
      obtain ⟨g, rfl, hg, hc⟩ := HR.out.at_ hlt hl.out
      have q0 := (HW.out.cell (p := ⟨g, k, none⟩) hg).trans hc
      have hlk : ls[k]? = some (ls[k]'hl.out) := List.getElem?_eq_getElem hl.out
      generalize ls[k]'hl.out = t at q0 hlk
      have HLK := Lib.hid hlk
      have hts := HSZ.out k t hlk
      have HTM : Hid (t.size ≤ maxLen) := by show _ ≤ _; unfold maxLen; omega
      have b0 : (0 : Int) ≤ (k : Int) := by omega
      have b1 : (k : Int) < (n : Int) := by omega
      obtain ⟨A', c', rfl, hrow⟩ := ownL_row HO.out
      clear hc hlk hrow
      obtain ⟨p, hp⟩ : ∃ p, blankB t = p := ⟨_, rfl⟩
      obtain ⟨q, hq⟩ : ∃ q, (t.size != 0 && PlainAid.bt t 0 == 42) = q := ⟨_, rfl⟩
      obtain ⟨r, hr⟩ : ∃ r, (t.size != 0 && PlainAid.bt t 0 == 43) = r := ⟨_, rfl⟩
      have HP := Lib.hid hp
      have HQ := Lib.hid hq
      have HRR := Lib.hid hr
      have hskip : skipB t = (p || q) := by unfold skipB; rw [hp, hq]
      have HSK := Lib.hid hskip
      have HCT : Hid (contB t = r) := Lib.hid hr
      clear hp hq hr hskip
      cases p
      · cases q
        · cases r
          · have HN : Hid (combT (ls.drop k) k acc = combT (ls.drop (k + 1)) (k + 1) (acc ++ [⟨((k + 1 : Nat) : Int), t⟩])) := combT_new HLK.out HSK.out HCT.out
            have HT0 : Hid (t.size ≤ 4000) := Lib.hid hts
            go_wp2_with (first | (go_at_call 58; refine (impl_IsBlankLine_any _ _).mono ?_; rintro e w' ⟨rfl, rfl⟩; rw [HP.out]) | (go_at_call 59; refine (impl_IsComment_any _ _ HTM.out).mono ?_; rintro e w' ⟨rfl, rfl⟩; rw [HQ.out]) | (go_at_call 60; refine (impl_IsContinuation_any _ _ HTM.out).mono ?_; rintro e w' ⟨rfl, rfl⟩; rw [HRR.out]) | (at_builtin; refine wpList_append_own _ rfl _ _ 22 rfl W.heap.size 39 i0 (.agg #[.int .i64 0, .string ByteArray.empty]) 2 24 Tryd.underlying22 hi0 hz0 hz1 hz2 rfl (by decide) _ _ _ rfl (HO.out.alloc _) ⟨wr.heap.size, 0, none⟩ 1 1 [.int .i64 ((k : Int) + 1), .string t] rfl rfl (cell_two_new _ _ _ _) (fun x hx => by simp at hx; rcases hx with rfl | rfl <;> rfl) (by unfold maxLen; omega) (by omega) (by have := HW.out.size; simp; omega) ?_; intro v1 w1 hown1 hgr1 _))
            go_roundw
            case rel =>
              refine ⟨k + 1, acc ++ [⟨((k + 1 : Nat) : Int), t⟩], by omega, by go_num, Lib.hid (ownL_snoc ⟨((k + 1 : Nat) : Int), t⟩ hown1), by simp; omega, ?_, by show _ = _; rw [← HE.out, HN.out], ?_⟩
              · show _ ≤ _
                rw [bytesL_append]
                have := HBY.out
                have := HT0.out
                simp only [bytesL]
                omega
              · exact Lib.hid ((HW.out.alloc HW.out.size _).grown hgr1 (by have := HW.out.size; simp; omega) (fun b hb => (HO.out.lt b hb).1))
            case measure => simp [intOf]; omega
          · by_cases h0 : acc.length = 0
            · have HN : Hid (combT (ls.drop k) k acc = ([], k + 1)) := combT_fault HLK.out HSK.out HCT.out h0
              go_wp2_with (first | (go_at_call 58; refine (impl_IsBlankLine_any _ _).mono ?_; rintro e w' ⟨rfl, rfl⟩; rw [HP.out]) | (go_at_call 59; refine (impl_IsComment_any _ _ HTM.out).mono ?_; rintro e w' ⟨rfl, rfl⟩; rw [HQ.out]) | (go_at_call 60; refine (impl_IsContinuation_any _ _ HTM.out).mono ?_; rintro e w' ⟨rfl, rfl⟩; rw [HRR.out]))
              refine bodyPost_ret (v := .tuple #[.slice none 0 0, .int .i64 ((k : Int) + 1)]) (by simp [results, Tryd.results31, go_sem]) rfl ?_
              rw [← HE.out, HN.out]
              exact ⟨none, 0, rfl, fun h => absurd h (Nat.lt_irrefl 0), HW.out⟩
            · have HN : Hid (combT (ls.drop k) k acc = combT (ls.drop (k + 1)) (k + 1) (extL acc t)) := combT_more HLK.out HSK.out HCT.out h0
              obtain ⟨m, hm⟩ : ∃ m, acc.length = m + 1 := ⟨acc.length - 1, by omega⟩
              obtain ⟨A'', c'', hv, hrow⟩ := ownL_row HO.out
              obtain ⟨rfl, rfl⟩ : A' = A'' ∧ c' = c'' := by injection hv; exact ⟨by assumption, by assumption⟩
              obtain ⟨gl, cs, rfl, hgl, hgl2, hlb, hcs, hh⟩ := hrow (by omega)
              obtain ⟨x, hx1⟩ : ∃ x, acc[m]? = some x := ⟨acc[m]'(by omega), List.getElem?_eq_getElem _⟩
              have c1 := (hh.cell2 hlb hx1).2
              have f1 := hlb.frozen (m * 2 + 1)
              have hxt : x.t.size ≤ 4000 * 121 := by have := bytesL_at hx1; have := HBY.out; omega
              have ht0 : 0 < t.size := by
                have h := HCT.out
                unfold contB at h
                simp only [Bool.and_eq_true, bne_iff_ne] at h
                omega
              have i1 : (1 : Int) ≤ (t.size : Int) := by omega
              have i2 : (0 : Int) ≤ (m : Int) := by omega
              have i3 : (m : Int) < (m : Int) + 1 := by omega
              have i4 : (m : Int) < ((m + 1 : Nat) : Int) := by omega
              have i5 : ¬ ((m : Int) < 0) := by omega
              have i6 : ¬ (9223372036854775807 < 1 + (t.size - 1)) := by omega
              have i7 : ¬ (9223372036854775807 < x.t.size + (1 + (t.size - 1))) := by omega
              have HX := Lib.hid hx1
              have HM := Lib.hid hm
              have hmk : m + 1 ≤ k := by omega
              have HM0 := Lib.hid h0
              have HGL : Hid (W.heap.size ≤ gl ∧ gl < wr.heap.size) := Lib.hid ⟨hgl, hgl2⟩
              rw [hm] at HO ⊢
              clear hv hrow hlb hcs hh hx1 h0 hm hgl hgl2
              go_wp2_with (first | (go_at_call 58; refine (impl_IsBlankLine_any _ _).mono ?_; rintro e w' ⟨rfl, rfl⟩; rw [HP.out]) | (go_at_call 59; refine (impl_IsComment_any _ _ HTM.out).mono ?_; rintro e w' ⟨rfl, rfl⟩; rw [HQ.out]) | (go_at_call 60; refine (impl_IsContinuation_any _ _ HTM.out).mono ?_; rintro e w' ⟨rfl, rfl⟩; rw [HRR.out]))
              go_still_tail 11, (by kernel_rfl)
              change wpList _ _ _ _ _ wr.drew
              have HO1 : Hid (OwnL wr.drew W.heap.size (.slice (some ⟨gl, 0, none⟩) (m + 1) c') acc) := HO.out
              have HW1 : Hid (Below W.heap.size W wr.drew) := HW.out.drew
              have HGL1 : Hid (W.heap.size ≤ gl ∧ gl < wr.drew.heap.size) := HGL.out
              have c2 : wr.drew.cell? ⟨gl, m * 2 + 1, none⟩ = some (.string x.t) := c1
              have f2 : wr.drew.frozen? ⟨gl, m * 2 + 1, none⟩ = false := f1
              clear c1 f1 HO HW HGL q0
              generalize wr.drew = w2 at HO1 HW1 HGL1 c2 f2 ⊢
              go_wp2_with fail
              go_roundw
              case rel =>
                have hx9 : acc[acc.length - 1]? = some x := by rw [HM.out]; exact HX.out
                have ho9 := HO1.out
                rw [← HM.out] at ho9
                obtain ⟨e1, e2⟩ := ownL_ext t ho9 hx9
                rw [HM.out, Nat.add_sub_cancel] at e1 e2
                refine ⟨k + 1, extL acc t, by omega, by go_num, Lib.hid e1, by rw [extL_length]; omega, ?_, by show _ = _; rw [← HE.out, HN.out], Lib.hid (HW1.out.grown e2 (by have := HW1.out.size; omega) (fun b hb => by cases hb; exact HGL1.out.1))⟩
                show _ ≤ _
                rw [extL_bytes HM0.out (by omega)]
                have := HBY.out
                omega
              case measure => simp [intOf]; omega
        · have HN : Hid (combT (ls.drop k) k acc = combT (ls.drop (k + 1)) (k + 1) acc) := combT_skip HLK.out HSK.out
          go_wp2_with (first | (go_at_call 58; refine (impl_IsBlankLine_any _ _).mono ?_; rintro e w' ⟨rfl, rfl⟩; rw [HP.out]) | (go_at_call 59; refine (impl_IsComment_any _ _ HTM.out).mono ?_; rintro e w' ⟨rfl, rfl⟩; rw [HQ.out]))
          go_roundw
          case rel => exact ⟨k + 1, acc, by omega, by go_num, HO, by omega, by have := HBY.out; show _ ≤ _; omega, by show _ = _; rw [← HE.out, HN.out], HW⟩
          case measure => simp [intOf]; omega
      · have HN : Hid (combT (ls.drop k) k acc = combT (ls.drop (k + 1)) (k + 1) acc) := combT_skip HLK.out HSK.out
        go_wp2_with (go_at_call 58; refine (impl_IsBlankLine_any _ _).mono ?_; rintro e w' ⟨rfl, rfl⟩; rw [HP.out])
        go_roundw
        case rel => exact ⟨k + 1, acc, by omega, by go_num, HO, by omega, by have := HBY.out; show _ ≤ _; omega, by show _ = _; rw [← HE.out, HN.out], HW⟩
        case measure => simp [intOf]; omega
    · obtain rfl : k = n := by omega
      have HN : combT (ls.drop k) k acc = (acc, 0) := combT_end (by have := HR.out.1; omega)
      obtain ⟨A', c', rfl, hrow⟩ := ownL_row HO.out
      have HROW := Lib.hid hrow
      clear hrow
      go_wp2_with fail
      refine bodyPost_ret (v := .tuple #[.slice A' acc.length c', .int .i64 0]) (by simp [results, Tryd.results31, go_sem]) rfl ?_
      rw [← HE.out, HN]
      exact ⟨A', c', rfl, HROW.out, HW.out⟩
end Go.Proofs.YtfobjedobojbnabDoor
