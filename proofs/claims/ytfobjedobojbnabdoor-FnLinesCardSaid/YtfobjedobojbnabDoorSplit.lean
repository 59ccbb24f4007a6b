/- Contracts: SplitStatements of the model and of the program. Condition: the string is not longer than the law lets it be. -/
import Derived.Test.YtfobjedobojbnabDoorStrs0
import Derived.Test.YtfobjedobojbnabDoorSplitPlain
import Derived.Test.YtfobjedobojbnabDoorShelf
import Derived.OwnWalk
import Derived.WalkSpells
import Derived.IntWalk
namespace Go.Proofs.YtfobjedobojbnabDoor
open Go Go.RowKit

theorem strInfo : (Tryd.prog.info? 9).map (fun i => (i.zero, i.size, i.bytes)) = some (some (Value.string ByteArray.empty), 1, 16) := by kernel_rfl
/-- The call hands back a row of its own that holds xs, and nothing that was there has turned. -/
def Rets (W : World) (xs : List ByteArray) (e : Ending) (w' : World) : Prop :=
  ∃ g c cs, e = Ending.returned (Value.slice (some ⟨g, 0, none⟩) xs.length c) ∧ W.heap.size ≤ g ∧ SB w' g cs ∧ xs.length ≤ cs.size ∧ xs.length ≤ c ∧ (∀ (j : Nat) (x : ByteArray), xs[j]? = some x → cs[j]? = some (Value.string x)) ∧ Below W.heap.size W w'
theorem rets_own {W w' : World} {v : Value} {xs : List ByteArray} (hn : 0 < xs.length) (h : w'.ownsRow W.heap.size 9 1 v xs.length (xs.map Value.string)) (hb : Below W.heap.size W w') : Rets W xs (.returned v) w' := by
  rcases h.2 with ⟨_, h0⟩ | ⟨g, cap, cur, rfl, hg, hh, hnc, _, hcs, ht⟩
  · omega
  · refine ⟨g, cap, cur, rfl, hg, hh, by omega, hnc, fun j x hx => ?_, hb⟩
    have hj : j < xs.length := (List.getElem?_eq_some_iff.1 hx).1
    have := congrArg (·[j]?) ht
    simp only [List.getElem?_take, Nat.mul_one, if_pos hj, List.getElem?_map, hx, Option.map_some] at this
    rw [← this, Array.getElem?_toList]

theorem own_ge {w : World} {base n : Nat} {e : TypeId} {v : Value} {xs : List Value} (h : w.ownsRow base e 1 v n xs) : ∀ k, v.ownBlock = some k → base ≤ k := fun k hk => by
  rcases h.2 with ⟨rfl, _⟩ | ⟨g, cap, cur, rfl, hg, _⟩
  · simp [Value.ownBlock] at hk
  · simp [Value.ownBlock] at hk
    omega

set_option maxHeartbeats 2000000 in
set_option maxRecDepth 100000 in
theorem spec_SplitStatements_any (s : ByteArray) (W : World) (hs : s.size ≤ 1048576) :
    Calls Tryd.prog 29 #[.string s] W (Rets W (stm s 0 0 0)) := by
  obtain ⟨i0, hi0, hz0, hz1, hz2⟩ := info_parts strInfo
  have hb := PlainAid.get_bt s
  go_enter Tryd.func29, Tryd.ntmps29
  go_wp2_with fail
  go_loopw [3, 4, 5, 6] (fun v a q i wr => ∃ (k b : Nat) (c : Int) (xs : List ByteArray), k ≤ s.size ∧ b ≤ k ∧ a = .int .i64 b ∧ q = .int .u8 c ∧ i = .int .i64 k ∧ Hid (wr.ownsRow W.heap.size 9 1 v xs.length (xs.map Value.string)) ∧ xs.length ≤ b ∧
      Hid (xs ++ stm s b c k = stm s 0 0 0) ∧ Hid (Below W.heap.size W wr)) (fun _ _ _ i _ => s.size - (intOf i).toNat)
  case atStart => exact ⟨0, 0, 0, [], Nat.zero_le _, Nat.le_refl _, rfl, rfl, rfl, World.ownsRow_lit W #[] 0 (Nat.le_refl _) (by decide) rfl, Nat.le_refl _, rfl, (Below.refl _ _).alloc (Nat.le_refl _) _⟩
  case round =>
    obtain ⟨k, b, c, xs, hk, hbk, rfl, rfl, rfl, HO, hx, HE, HW⟩ := hrel
    by_cases hlt : k < s.size
    · have b0 := PlainAid.bt_nonneg s k
      have b1 := PlainAid.bt_le s k
      by_cases hc : c = 0
      · subst hc
        by_cases h1 : PlainAid.bt s k = 39 ∨ PlainAid.bt s k = 34
        · have HS : Hid (stm s b 0 k = stm s b (PlainAid.bt s k) (k + 1)) := stm_quote hlt h1
          rcases h1 with h1 | h1
          · have d1 : (PlainAid.bt s k == 39) = true := by simpa using h1
            clear h1
            go_wp2_with fail
            go_roundw
            case rel => exact ⟨k + 1, b, _, xs, by omega, by omega, rfl, rfl, by go_num, HO, hx, by rw [← HS.out]; exact HE, HW⟩
            case measure => simp [intOf]; omega
          · have d1 : (PlainAid.bt s k == 39) = false := by simp; omega
            have d2 : (PlainAid.bt s k == 34) = true := by simpa using h1
            clear h1
            go_wp2_with fail
            go_roundw
            case rel => exact ⟨k + 1, b, _, xs, by omega, by omega, rfl, rfl, by go_num, HO, hx, by rw [← HS.out]; exact HE, HW⟩
            case measure => simp [intOf]; omega
        · have d1 : (PlainAid.bt s k == 39) = false := by simp; omega
          have d2 : (PlainAid.bt s k == 34) = false := by simp; omega
          by_cases h2 : PlainAid.bt s k = 59
          · have d3 : (PlainAid.bt s k == 59) = true := by simpa using h2
            have HS : Hid (stm s b 0 k = s.extract b k :: stm s (k + 1) 0 (k + 1)) := stm_cut hlt h2
            clear h1 h2
            go_wp2_with (at_builtin; refine wpList_append_own _ rfl _ _ 46 rfl W.heap.size 9 i0 (.string ByteArray.empty) 1 16 Tryd.underlying46 hi0 hz0 hz1 hz2 rfl (by decide) _ _ _ rfl (HO.out.alloc _) ⟨wr.heap.size, 0, none⟩ 1 1 [.string (s.extract b k)] rfl rfl (cell_one_new _ _ _) (fun x hx => by simp at hx; subst hx; rfl) (by unfold maxLen; omega) (by omega) (by have := HW.out.size; simp; omega) ?_; intro v1 w1 hown1 hgr1 _)
            go_roundw
            case rel =>
              refine ⟨k + 1, k + 1, 0, xs ++ [s.extract b k], by omega, by omega, by go_num, rfl, by go_num, ?_, by simp; omega, ?_, ?_⟩
              · exact Lib.hid (by simpa using hown1)
              · show _ = _
                rw [List.append_assoc, List.singleton_append, ← HS.out]
                exact HE.out
              · exact (HW.out.alloc HW.out.size _).grown hgr1 (by have := HW.out.size; simp; omega) (own_ge HO.out)
            case measure => simp [intOf]; omega
          · have d3 : (PlainAid.bt s k == 59) = false := by simpa using h2
            have HS : Hid (stm s b 0 k = stm s b 0 (k + 1)) := stm_plain hlt (by omega) (by omega) h2
            clear h1 h2
            go_wp2_with fail
            go_roundw
            case rel => exact ⟨k + 1, b, 0, xs, by omega, by omega, rfl, rfl, by go_num, HO, hx, by rw [← HS.out]; exact HE, HW⟩
            case measure => simp [intOf]; omega
      · have hc1 : (c != 0) = true := by simpa using hc
        have hc2 : (c == 0) = false := by simpa using hc
        by_cases h1 : PlainAid.bt s k = c
        · have d : (PlainAid.bt s k == c) = true := by simpa using h1
          have HS : Hid (stm s b c k = stm s b 0 (k + 1)) := stm_close hlt hc h1
          clear h1 hc
          go_wp2_with fail
          go_roundw
          case rel => exact ⟨k + 1, b, 0, xs, by omega, by omega, rfl, rfl, by go_num, HO, hx, by rw [← HS.out]; exact HE, HW⟩
          case measure => simp [intOf]; omega
        · have d : (PlainAid.bt s k == c) = false := by simpa using h1
          have HS : Hid (stm s b c k = stm s b c (k + 1)) := stm_inside hlt hc h1
          clear h1 hc
          go_wp2_with fail
          go_roundw
          case rel => exact ⟨k + 1, b, c, xs, by omega, by omega, rfl, rfl, by go_num, HO, hx, by rw [← HS.out]; exact HE, HW⟩
          case measure => simp [intOf]; omega
    · have HS : Hid (stm s b c k = [s.extract b s.size]) := stm_end hlt
      go_wp2_with (at_builtin; refine wpList_append_own _ rfl _ _ 46 rfl W.heap.size 9 i0 (.string ByteArray.empty) 1 16 Tryd.underlying46 hi0 hz0 hz1 hz2 rfl (by decide) _ _ _ rfl (HO.out.alloc _) ⟨wr.heap.size, 0, none⟩ 1 1 [.string (s.extract b s.size)] rfl rfl (cell_one_new _ _ _) (fun x hx => by simp at hx; subst hx; rfl) (by unfold maxLen; omega) (by omega) (by have := HW.out.size; simp; omega) ?_; intro v1 w1 hown1 hgr1 _)
      go_ret
      have hE : stm s 0 0 0 = xs ++ [s.extract b s.size] := by rw [← HE.out, HS.out]
      rw [hE]
      refine rets_own (by simp) (by simpa using hown1) ?_
      exact (HW.out.alloc HW.out.size _).grown hgr1 (by have := HW.out.size; simp; omega) (own_ge HO.out)

set_option maxHeartbeats 2000000 in
set_option maxRecDepth 100000 in
theorem impl_SplitStatements_any (s : ByteArray) (W : World) (hs : s.size ≤ 1048576) :
    Calls Tryd.prog 63 #[.string s] W (Rets W (stm s 0 0 0)) := by
  obtain ⟨i0, hi0, hz0, hz1, hz2⟩ := info_parts strInfo
  have hb := PlainAid.get_bt s
  go_enter Tryd.func63, Tryd.ntmps63
  go_wp2_with fail
  go_step3
  go_wp2_with fail
  go_step3
  go_wp2_with fail
  go_loopw [3, 4, 5] (fun v a i wr => ∃ (k b : Nat) (xs : List ByteArray), k ≤ s.size ∧ b ≤ k ∧ a = .int .i64 b ∧ i = .int .i64 k ∧ Hid (wr.ownsRow W.heap.size 9 1 v xs.length (xs.map Value.string)) ∧ xs.length ≤ b ∧
      Hid (xs ++ stm s b 0 k = stm s 0 0 0) ∧ Hid (Below W.heap.size W wr)) (fun _ _ i _ => s.size - (intOf i).toNat)
  case atStart => exact ⟨0, 0, [], Nat.zero_le _, Nat.le_refl _, rfl, rfl, World.ownsRow_nil _ _ _ _, Nat.le_refl _, rfl, Below.refl _ _⟩
  case round =>
    obtain ⟨k, b, xs, hk, hbk, rfl, rfl, HO, hx, HE, HW⟩ := hrel
    by_cases hlt : k < s.size
    · have b0 := PlainAid.bt_nonneg s k
      have b1 := PlainAid.bt_le s k
      by_cases h1 : PlainAid.bt s k = 39 ∨ PlainAid.bt s k = 34
      · have HS0 : Hid (stm s b 0 k = stm s b (PlainAid.bt s k) (k + 1)) := stm_quote hlt h1
        rcases h1 with h1 | h1
        · have d1 : (PlainAid.bt s k == 39) = true := by simpa using h1
          have d0 : (PlainAid.bt s k == 59) = false := by simp; omega
          have hcu : ((PlainAid.bt s k).toNat.toUInt8.toNat : Int) = PlainAid.bt s k := by
            have : (PlainAid.bt s k).toNat < 256 := by omega
            simp [Nat.toUInt8, UInt8.toNat_ofNat', Nat.mod_eq_of_lt this]
            omega
          have hne : ¬ ((PlainAid.bt s k).toNat.toUInt8.toNat : Int) = 0 := by omega
          obtain ⟨r, hr⟩ : ∃ r, Lib.indexByte (s.data.toList.drop (k + 1)) (PlainAid.bt s k).toNat.toUInt8 = r := ⟨_, rfl⟩
          have HC : Hid (∀ w, Calls Tryd.prog 84 #[.string (s.extract (k + 1) s.size), .int .u8 (PlainAid.bt s k)] w fun e w' => e = .returned (.int .i64 r) ∧ w' = w) := fun w => by
            have := Tryd.strings_IndexByte (s.extract (k + 1) s.size) (PlainAid.bt s k) w
            rw [Lib.extract_to_end, hr] at this
            exact this
          have hge := Lib.indexByte_ge (s.data.toList.drop (k + 1)) (PlainAid.bt s k).toNat.toUInt8
          rw [hr] at hge
          have hw1 : IntKind.i64.wrap ((k : Int) + 1) = (k : Int) + 1 := IntWalk.i64_in _ (by omega)
          have hw2 : ((k : Int) + 1).toNat = k + 1 := by omega
          have hw3 : (0 : Int) ≤ (k : Int) + 1 := by omega
          have hw4 : (k : Int) + 1 ≤ (s.size : Int) := by omega
          have hw5 : (0 : Int) ≤ (k : Int) := by omega
          have hw6 : (k : Int) < (s.size : Int) := by omega
          have hbk := hb k hlt
          by_cases hneg : r < 0
          · obtain rfl : r = -1 := by omega
            have HS : Hid (stm s b 0 k = [s.extract b s.size]) := HS0.out.trans (by rw [← hcu]; exact stm_find_no hne (by omega) hr)
            clear h1 hcu hne hr hge hneg
            go_wp2_with fail
            go_quiet ((go_at_call 84; exact Calls.quiet_of_same (HC.out _)))
            clear hw1 hw2 hw3 hw4 hw5 hw6 hbk
            have HO2 : Hid ((wr.drewN nq).ownsRow W.heap.size 9 1 _ xs.length (xs.map Value.string)) := HO.out
            have HW2 : Hid (Below W.heap.size W (wr.drewN nq)) := below_drewN HW.out nq
            clear HO HW
            generalize wr.drewN nq = w2 at HO2 HW2 ⊢
            go_wp2_with (at_builtin; refine wpList_append_own _ rfl _ _ 46 rfl W.heap.size 9 i0 (.string ByteArray.empty) 1 16 Tryd.underlying46 hi0 hz0 hz1 hz2 rfl (by decide) _ _ _ rfl (HO2.out.alloc _) ⟨w2.heap.size, 0, none⟩ 1 1 [.string (s.extract b s.size)] rfl rfl (cell_one_new _ _ _) (fun x hx => by simp at hx; subst hx; rfl) (by unfold maxLen; omega) (by omega) (by have := HW2.out.size; simp; omega) ?_; intro v1 w1 hown1 hgr1 _)
            try rw [Exit.noGoto_ret]
            go_ret
            have hE : stm s 0 0 0 = xs ++ [s.extract b s.size] := by rw [← HE.out, HS.out]
            rw [hE]
            refine rets_own (by simp) (by simpa using hown1) ?_
            exact (HW2.out.alloc HW2.out.size _).grown hgr1 (by have := HW2.out.size; simp; omega) (own_ge HO2.out)
          · obtain ⟨o, rfl⟩ : ∃ o : Nat, r = (o : Int) := ⟨r.toNat, by omega⟩
            have hy := stm_find_yes (a := b) hne hr
            rw [hcu] at hy
            have ho : k + 1 + o < s.size := hy.1
            have HS : Hid (stm s b 0 k = stm s b 0 (k + 1 + o + 1)) := HS0.out.trans hy.2
            clear h1 hcu hne hr hge hneg hy
            go_wp2_with fail
            go_quiet ((go_at_call 84; exact Calls.quiet_of_same (HC.out _)))
            clear hw1 hw2 hw3 hw4 hw5 hw6 hbk
            go_wp2_with fail
            go_roundw
            case rel => exact ⟨k + 1 + o + 1, b, xs, by omega, by omega, rfl, by congr 1; omega, HO, hx, by rw [← HS.out]; exact HE, below_drewN HW.out nq⟩
            case measure => simp [intOf]; omega
        · have d1 : (PlainAid.bt s k == 39) = false := by simp; omega
          have d2 : (PlainAid.bt s k == 34) = true := by simpa using h1
          have d0 : (PlainAid.bt s k == 59) = false := by simp; omega
          have hcu : ((PlainAid.bt s k).toNat.toUInt8.toNat : Int) = PlainAid.bt s k := by
            have : (PlainAid.bt s k).toNat < 256 := by omega
            simp [Nat.toUInt8, UInt8.toNat_ofNat', Nat.mod_eq_of_lt this]
            omega
          have hne : ¬ ((PlainAid.bt s k).toNat.toUInt8.toNat : Int) = 0 := by omega
          obtain ⟨r, hr⟩ : ∃ r, Lib.indexByte (s.data.toList.drop (k + 1)) (PlainAid.bt s k).toNat.toUInt8 = r := ⟨_, rfl⟩
          have HC : Hid (∀ w, Calls Tryd.prog 84 #[.string (s.extract (k + 1) s.size), .int .u8 (PlainAid.bt s k)] w fun e w' => e = .returned (.int .i64 r) ∧ w' = w) := fun w => by
            have := Tryd.strings_IndexByte (s.extract (k + 1) s.size) (PlainAid.bt s k) w
            rw [Lib.extract_to_end, hr] at this
            exact this
          have hge := Lib.indexByte_ge (s.data.toList.drop (k + 1)) (PlainAid.bt s k).toNat.toUInt8
          rw [hr] at hge
          have hw1 : IntKind.i64.wrap ((k : Int) + 1) = (k : Int) + 1 := IntWalk.i64_in _ (by omega)
          have hw2 : ((k : Int) + 1).toNat = k + 1 := by omega
          have hw3 : (0 : Int) ≤ (k : Int) + 1 := by omega
          have hw4 : (k : Int) + 1 ≤ (s.size : Int) := by omega
          have hw5 : (0 : Int) ≤ (k : Int) := by omega
          have hw6 : (k : Int) < (s.size : Int) := by omega
          have hbk := hb k hlt
          by_cases hneg : r < 0
          · obtain rfl : r = -1 := by omega
            have HS : Hid (stm s b 0 k = [s.extract b s.size]) := HS0.out.trans (by rw [← hcu]; exact stm_find_no hne (by omega) hr)
            clear h1 hcu hne hr hge hneg
            go_wp2_with fail
            go_quiet ((go_at_call 84; exact Calls.quiet_of_same (HC.out _)))
            clear hw1 hw2 hw3 hw4 hw5 hw6 hbk
            have HO2 : Hid ((wr.drewN nq).ownsRow W.heap.size 9 1 _ xs.length (xs.map Value.string)) := HO.out
            have HW2 : Hid (Below W.heap.size W (wr.drewN nq)) := below_drewN HW.out nq
            clear HO HW
            generalize wr.drewN nq = w2 at HO2 HW2 ⊢
            go_wp2_with (at_builtin; refine wpList_append_own _ rfl _ _ 46 rfl W.heap.size 9 i0 (.string ByteArray.empty) 1 16 Tryd.underlying46 hi0 hz0 hz1 hz2 rfl (by decide) _ _ _ rfl (HO2.out.alloc _) ⟨w2.heap.size, 0, none⟩ 1 1 [.string (s.extract b s.size)] rfl rfl (cell_one_new _ _ _) (fun x hx => by simp at hx; subst hx; rfl) (by unfold maxLen; omega) (by omega) (by have := HW2.out.size; simp; omega) ?_; intro v1 w1 hown1 hgr1 _)
            try rw [Exit.noGoto_ret]
            go_ret
            have hE : stm s 0 0 0 = xs ++ [s.extract b s.size] := by rw [← HE.out, HS.out]
            rw [hE]
            refine rets_own (by simp) (by simpa using hown1) ?_
            exact (HW2.out.alloc HW2.out.size _).grown hgr1 (by have := HW2.out.size; simp; omega) (own_ge HO2.out)
          · obtain ⟨o, rfl⟩ : ∃ o : Nat, r = (o : Int) := ⟨r.toNat, by omega⟩
            have hy := stm_find_yes (a := b) hne hr
            rw [hcu] at hy
            have ho : k + 1 + o < s.size := hy.1
            have HS : Hid (stm s b 0 k = stm s b 0 (k + 1 + o + 1)) := HS0.out.trans hy.2
            clear h1 hcu hne hr hge hneg hy
            go_wp2_with fail
            go_quiet ((go_at_call 84; exact Calls.quiet_of_same (HC.out _)))
            clear hw1 hw2 hw3 hw4 hw5 hw6 hbk
            go_wp2_with fail
            go_roundw
            case rel => exact ⟨k + 1 + o + 1, b, xs, by omega, by omega, rfl, by congr 1; omega, HO, hx, by rw [← HS.out]; exact HE, below_drewN HW.out nq⟩
            case measure => simp [intOf]; omega
      · have d1 : (PlainAid.bt s k == 39) = false := by simp; omega
        have d2 : (PlainAid.bt s k == 34) = false := by simp; omega
        by_cases h2 : PlainAid.bt s k = 59
        · have d3 : (PlainAid.bt s k == 59) = true := by simpa using h2
          have HS : Hid (stm s b 0 k = s.extract b k :: stm s (k + 1) 0 (k + 1)) := stm_cut hlt h2
          clear h1 h2
          go_wp2_with (at_builtin; refine wpList_append_own _ rfl _ _ 46 rfl W.heap.size 9 i0 (.string ByteArray.empty) 1 16 Tryd.underlying46 hi0 hz0 hz1 hz2 rfl (by decide) _ _ _ rfl (HO.out.alloc _) ⟨wr.heap.size, 0, none⟩ 1 1 [.string (s.extract b k)] rfl rfl (cell_one_new _ _ _) (fun x hx => by simp at hx; subst hx; rfl) (by unfold maxLen; omega) (by omega) (by have := HW.out.size; simp; omega) ?_; intro v1 w1 hown1 hgr1 _)
          go_roundw
          case rel =>
            refine ⟨k + 1, k + 1, xs ++ [s.extract b k], by omega, by omega, by go_num, by go_num, ?_, by simp; omega, ?_, ?_⟩
            · exact Lib.hid (by simpa using hown1)
            · show _ = _
              rw [List.append_assoc, List.singleton_append, ← HS.out]
              exact HE.out
            · exact (HW.out.alloc HW.out.size _).grown hgr1 (by have := HW.out.size; simp; omega) (own_ge HO.out)
          case measure => simp [intOf]; omega
        · have d3 : (PlainAid.bt s k == 59) = false := by simpa using h2
          have HS : Hid (stm s b 0 k = stm s b 0 (k + 1)) := stm_plain hlt (by omega) (by omega) h2
          clear h1 h2
          go_wp2_with fail
          go_roundw
          case rel => exact ⟨k + 1, b, xs, by omega, by omega, rfl, by go_num, HO, hx, by rw [← HS.out]; exact HE, HW⟩
          case measure => simp [intOf]; omega
    · have HS : Hid (stm s b 0 k = [s.extract b s.size]) := stm_end hlt
      go_wp2_with (at_builtin; refine wpList_append_own _ rfl _ _ 46 rfl W.heap.size 9 i0 (.string ByteArray.empty) 1 16 Tryd.underlying46 hi0 hz0 hz1 hz2 rfl (by decide) _ _ _ rfl (HO.out.alloc _) ⟨wr.heap.size, 0, none⟩ 1 1 [.string (s.extract b s.size)] rfl rfl (cell_one_new _ _ _) (fun x hx => by simp at hx; subst hx; rfl) (by unfold maxLen; omega) (by omega) (by have := HW.out.size; simp; omega) ?_; intro v1 w1 hown1 hgr1 _)
      try rw [Exit.noGoto_ret]
      go_ret
      have hE : stm s 0 0 0 = xs ++ [s.extract b s.size] := by rw [← HE.out, HS.out]
      rw [hE]
      refine rets_own (by simp) (by simpa using hown1) ?_
      exact (HW.out.alloc HW.out.size _).grown hgr1 (by have := HW.out.size; simp; omega) (own_ge HO.out)
end Go.Proofs.YtfobjedobojbnabDoor
