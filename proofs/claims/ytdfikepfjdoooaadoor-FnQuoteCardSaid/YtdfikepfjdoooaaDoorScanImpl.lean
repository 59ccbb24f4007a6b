/- Contract of the program's ScanTokens. Condition: the table. -/
import Derived.Test.YtdfikepfjdoooaaDoorScanTop
namespace Go.Proofs.YtdfikepfjdoooaaDoor
open Go Go.RowKit

theorem isGap_same (s : ByteArray) (a : Int) (W : World) (hl : s.size ≤ 1048576) :
    Calls Tryd.prog 54 #[.string s, .int .i64 a] W fun e w' => e = .returned (.bool (gapB s a)) ∧ w' = W := by
  by_cases h0 : a < 0
  · rw [gapB_out (.inl h0)]
    go_enter Tryd.func54, Tryd.ntmps54
    go_wp2_with fail
    go_ret
    exact ⟨rfl, rfl⟩
  · by_cases h1 : (s.size : Int) ≤ a
    · rw [gapB_out (.inr h1)]
      go_enter Tryd.func54, Tryd.ntmps54
      go_wp2_with fail
      go_ret
      exact ⟨rfl, rfl⟩
    · obtain ⟨k, rfl⟩ : ∃ k : Nat, a = k := ⟨a.toNat, by omega⟩
      rw [gapB_in (by omega)]
      have hb := PlainAid.get_bt s
      have i0 : ¬ (k : Int) < 0 := by omega
      have i1 : (k : Int) < (s.size : Int) := by omega
      have i2 : (0 : Int) ≤ (k : Int) := by omega
      have d0 : decide ((k : Int) < 0) = false := by simp
      have d1 : decide (s.size ≤ k) = false := by simp; omega
      clear h0 h1
      go_enter Tryd.func54, Tryd.ntmps54
      go_wp2_with fail
      go_ret
      exact ⟨bool_ret rfl, rfl⟩
theorem own_scan {w w' : World} {g : Nat} {v : Value} {xs : List Tok} (h : Own w (g + 1) v xs) (hg : w.grownBy w' (some g)) : Own w' (g + 1) v xs :=
  h.kept hg (by
    cases hv : v.ownBlock with
    | none => exact .inl rfl
    | some b =>
      refine .inr fun e => ?_
      have := (h.lt b hv).1
      cases e
      omega)
theorem below_scan {W w w' : World} {g : Nat} (h : Below W.heap.size W w) (hg : w.grownBy w' (some g)) (hle : W.heap.size ≤ g) : Below W.heap.size W w' :=
  Below.grown h hg h.size fun k hk => by cases hk; exact hle
theorem retsT_ownG {W w' : World} {g : Nat} {v : Value} {xs : List Tok} {n : Nat} {c : Int} (hle : W.heap.size ≤ g) (h : Own w' (g + 1) v xs) (hb : Below W.heap.size W w') : RetsT W (xs, n, c) (.returned (.tuple #[v, .int .i64 (n : Int), .int .i64 c])) w' := by
  obtain ⟨A, cap, rfl, hr⟩ := own_row h
  refine ⟨A, cap, rfl, fun hn => ?_, hb⟩
  obtain ⟨b, cs, e1, h1, h2⟩ := hr hn
  exact ⟨b, cs, e1, by omega, h2⟩

set_option maxHeartbeats 4000000 in
set_option maxRecDepth 100000 in
theorem impl_ScanTokens_any (s : ByteArray) (W : World) (hl : s.size ≤ 1048576) (hT : Classes W) :
    Calls Tryd.prog 14 #[.string s] W (RetsT W (tokensT s)) := by
  obtain ⟨i0, hi0, hz0, hz1, hz2⟩ := info_parts tokInfo
  have HT := Lib.hid hT
  have HG : Hid (0 < W.heap.size) := heap_pos (hT.at_ 0 (by decide))
  clear hT
  by_cases h : s.size ≤ 4000
  · have j0 : decide (4000 < (s.size : Int)) = false := decide_eq_false (by omega)
    obtain ⟨p, hp⟩ : ∃ p, allB (prnB false) s = p := ⟨_, rfl⟩
    have HP := Lib.hid hp
    cases p
    · rw [tokensT_no (fun h2 => by rw [hp] at h2; cases h2.2)]
      clear hp h
      go_enter Tryd.func14, Tryd.ntmps14
      go_wp2_with (go_at_call 51; refine (hasUnprintable_any _ _).mono ?_; rintro e w1 ⟨rfl, hb⟩; rw [HP.out]; have HB := Lib.hid hb; clear hb)
      refine bodyPost_ret (v := .tuple #[.slice none 0 0, .int .i64 0, .int .i64 1]) (by simp [results, Tryd.results14, go_sem]) rfl ?_
      exact retsT_nil (n := 0) HB.out
    · rw [tokensT_yes h hp]
      clear hp h
      go_enter Tryd.func14, Tryd.ntmps14
      go_wp2_with (go_at_call 51; refine (hasUnprintable_any _ _).mono ?_; rintro e w1 ⟨rfl, hb⟩; rw [HP.out]; have HB := Lib.hid hb; clear hb)
      obtain ⟨g, hg⟩ : ∃ g, w1.heap.size = g := ⟨_, rfl⟩
      have HGE : Hid (W.heap.size ≤ g) := by show _ ≤ _; rw [← hg]; exact HB.out.size
      have HGG : Hid (0 < g) := Nat.lt_of_lt_of_le HG.out HGE.out
      have HS0 : Hid (Scan (w1.alloc (.cells #[.string s, .int .i64 0] 62)) g s 0) := by show Scan _ _ _ _; rw [← hg]; exact heap_alloc_new w1 _
      have HW0 : Hid (Below W.heap.size W (w1.alloc (.cells #[.string s, .int .i64 0] 62))) := HB.out.alloc HB.out.size _
      rw [hg]
      clear hg HB
      generalize w1.alloc (.cells #[.string s, .int .i64 0] 62) = w0 at HS0 HW0 ⊢
      go_loopg [5] (s.size) (fun gk v wr => ∃ (k : Nat) (xs : List Tok), k + gk = s.size ∧ Hid (Scan wr g s k) ∧ Hid (Own wr (g + 1) v xs) ∧ xs.length ≤ 120 ∧ Hid (scanT s k xs = scanT s 0 []) ∧ Hid (Below W.heap.size W wr))
      case atStart => exact ⟨0, [], by omega, HS0, World.ownsRow_nil _ _ _ _, Nat.zero_le _, rfl, HW0⟩
      case round =>
        obtain ⟨k, xs, hk, HS, HO, hx, HE, HW⟩ := hrel
        have HK0 : Hid (∀ w, Scan w g s k → Calls Tryd.prog 52 #[.pointer (some ⟨g, 0, none⟩)] w fun e w' => e = .returned (.bool (decide (blankEnd s k < s.size))) ∧ Hid (Scan w' g s (blankEnd s k) ∧ w.grownBy w' (some g))) := fun w h => skipBlanks_any g k s w h (by omega) hl
        have hkj : k ≤ blankEnd s k := runEnd_ge _ s k
        by_cases hlt : blankEnd s k < s.size
        · have HK : Hid (∀ w, Scan w g s k → Calls Tryd.prog 52 #[.pointer (some ⟨g, 0, none⟩)] w fun e w' => e = .returned (.bool true) ∧ Hid (Scan w' g s (blankEnd s k) ∧ w.grownBy w' (some g))) := fun w h => (HK0.out w h).mono fun e w' hh => ⟨by rw [hh.1, decide_eq_true hlt], hh.2⟩
          obtain ⟨A, cap, rfl, hrow⟩ := own_row HO.out
          clear hrow HK0
          cases hone : oneT s (blankEnd s k) with
          | none =>
            have HRS : Hid (scanT s k xs = ([], blankEnd s k, 2)) := scanT_none hlt hone
            obtain ⟨j, hj⟩ : ∃ j, blankEnd s k = j := ⟨_, rfl⟩
            rw [hj] at HRS HK hlt hkj hone
            have HR : Hid (∀ w, Scan w g s j → Classes w → Calls Tryd.prog 53 #[.pointer (some ⟨g, 0, none⟩)] w fun e w' => e = TokRes 0 0 ⟨#[]⟩ false ∧ Hid (w.grownBy w' (some g))) := fun w h h2 => read_no g j s w h hlt hl h2 HGG.out hone
            clear hj hone
            go_wp2_with (first | (go_at_call 52; refine (HK.out _ HS.out).mono ?_; rintro e w2 ⟨rfl, hp⟩; have S2 : Hid (Scan w2 g s j) := hp.out.1; have O2 := Lib.hid (own_scan HO.out hp.out.2); have B2 := Lib.hid (below_scan HW.out hp.out.2 HGE.out); have q0 := S2.out.c0; have q1 := S2.out.c1; clear hp) | (go_at_call 53; refine (HR.out _ S2.out (HT.out.below B2.out HG.out)).mono ?_; rintro e w3 ⟨rfl, hp⟩; simp only [TokRes]; have B3 := Lib.hid (below_scan B2.out hp.out HGE.out); clear hp q0 q1))
            refine bodyPost_ret (v := .tuple #[.slice none 0 0, .int .i64 (j : Int), .int .i64 2]) (by simp [results, Tryd.results14, go_sem]) rfl ?_
            rw [← HE.out, HRS.out]
            refine retsT_nil ?_
            repeat (first | exact B3.out | refine Below.alloc ?_ (by have := B3.out.size; simp; omega) _ | refine Below.setCell ?_ (by have := B3.out.size; simp; omega) _)
          | some r =>
            obtain ⟨ta, tn, tt, k'⟩ := r
            have hend := oneT_end hlt hone
            by_cases h120 : xs.length = 120
            · have HRS : Hid (scanT s k xs = ([], blankEnd s k, 6)) := scanT_full hlt hone h120
              obtain ⟨j, hj⟩ : ∃ j, blankEnd s k = j := ⟨_, rfl⟩
              rw [hj] at HRS HK hlt hkj hone hend
              have HR : Hid (∀ w, Scan w g s j → Classes w → Calls Tryd.prog 53 #[.pointer (some ⟨g, 0, none⟩)] w fun e w' => e = TokRes ta tn tt true ∧ Hid (Scan w' g s k' ∧ w.grownBy w' (some g))) := fun w h h2 => read_yes g j k' ta tn tt s w h hlt hl h2 HGG.out hone
              have i6 : ((xs.length : Int) == 120) = true := by rw [h120]; rfl
              clear hj hone
              go_wp2_with (first | (go_at_call 52; refine (HK.out _ HS.out).mono ?_; rintro e w2 ⟨rfl, hp⟩; have S2 : Hid (Scan w2 g s j) := hp.out.1; have O2 := Lib.hid (own_scan HO.out hp.out.2); have B2 := Lib.hid (below_scan HW.out hp.out.2 HGE.out); have q0 := S2.out.c0; have q1 := S2.out.c1; clear hp) | (go_at_call 53; refine (HR.out _ S2.out (HT.out.below B2.out HG.out)).mono ?_; rintro e w3 ⟨rfl, hp⟩; simp only [TokRes]; have S3 : Hid (Scan w3 g s k') := hp.out.1; have O3 := Lib.hid (own_scan O2.out hp.out.2); have B3 := Lib.hid (below_scan B2.out hp.out.2 HGE.out); have S4 : Hid (∀ o, Scan (w3.alloc o) g s k') := fun o => S3.out.alloc o; have q2 := fun o => (S4.out o).c0; have q3 := fun o => (S4.out o).c1; have G3 : Hid (g < w3.heap.size) := S3.out.lt; clear hp q0 q1))
              refine bodyPost_ret (v := .tuple #[.slice none 0 0, .int .i64 (j : Int), .int .i64 6]) (by simp [results, Tryd.results14, go_sem]) rfl ?_
              rw [← HE.out, HRS.out]
              refine retsT_nil ?_
              repeat (first | exact B3.out | refine Below.alloc ?_ (by have := B3.out.size; simp; omega) _ | refine Below.setCell ?_ (by have := B3.out.size; simp; omega) _)
            · have HRS : Hid (scanT s k xs = scanT s k' (xs ++ [⟨ta, tn, tt, gapB s ((blankEnd s k : Int) - 1), gapB s k'⟩])) := scanT_step hlt hone h120
              obtain ⟨j, hj⟩ : ∃ j, blankEnd s k = j := ⟨_, rfl⟩
              rw [hj] at HRS HK hlt hkj hone hend
              have HR : Hid (∀ w, Scan w g s j → Classes w → Calls Tryd.prog 53 #[.pointer (some ⟨g, 0, none⟩)] w fun e w' => e = TokRes ta tn tt true ∧ Hid (Scan w' g s k' ∧ w.grownBy w' (some g))) := fun w h h2 => read_yes g j k' ta tn tt s w h hlt hl h2 HGG.out hone
              have i6 : ((xs.length : Int) == 120) = false := by simp; omega
              have i7 : IntKind.i64.wrap ((j : Int) - 1) = (j : Int) - 1 := IntWalk.i64_in _ (by omega)
              clear hj hone
              go_wp2_with (first | (go_at_call 52; refine (HK.out _ HS.out).mono ?_; rintro e w2 ⟨rfl, hp⟩; have S2 : Hid (Scan w2 g s j) := hp.out.1; have O2 := Lib.hid (own_scan HO.out hp.out.2); have B2 := Lib.hid (below_scan HW.out hp.out.2 HGE.out); have q0 := S2.out.c0; have q1 := S2.out.c1; clear hp) | (go_at_call 53; refine (HR.out _ S2.out (HT.out.below B2.out HG.out)).mono ?_; rintro e w3 ⟨rfl, hp⟩; simp only [TokRes]; have S3 : Hid (Scan w3 g s k') := hp.out.1; have O3 := Lib.hid (own_scan O2.out hp.out.2); have B3 := Lib.hid (below_scan B2.out hp.out.2 HGE.out); have S4 : Hid (∀ o, Scan (w3.alloc o) g s k') := fun o => S3.out.alloc o; have q2 := fun o => (S4.out o).c0; have q3 := fun o => (S4.out o).c1; have G3 : Hid (g < w3.heap.size) := S3.out.lt; clear hp q0 q1) | (go_at_call 54; refine (isGap_same _ _ _ hl).mono ?_; rintro e w' ⟨rfl, rfl⟩) | (at_builtin; refine wpList_append_own _ rfl _ _ 22 rfl (g + 1) 46 i0 (.agg #[.int .i64 0, .int .i64 0, .string ByteArray.empty, .bool false, .bool false]) 5 40 Tryd.underlying22 hi0 hz0 hz1 hz2 rfl (by decide) _ _ _ rfl (own_keep O3.out (below2 (Below.refl _ _) (Nat.le_refl _) _ _)) ⟨w3.heap.size + 1, 0, none⟩ 1 1 [.int .i64 ta, .int .i64 tn, .string tt, .bool (gapB s ((j : Int) - 1)), .bool (gapB s (k' : Int))] rfl rfl (cell_five_new2 _ _ _ _ _ _ _ _) (fun x hx => by simp at hx; rcases hx with rfl | rfl | rfl | rfl | rfl <;> rfl) (by unfold maxLen; omega) (by omega) (by have := G3.out; simp; omega) ?_; intro v1 w5 hown1 hgr1 _))
              go_roundg (s.size - k')
              case rel =>
                refine ⟨k', xs ++ [⟨ta, tn, tt, gapB s ((j : Int) - 1), gapB s k'⟩], by omega, ?_, Lib.hid (own_snoc ⟨ta, tn, tt, gapB s ((j : Int) - 1), gapB s k'⟩ hown1), by simp; omega, Lib.hid (by rw [← HE.out, HRS.out]), ?_⟩
                · refine Lib.hid ?_
                  have h1 : Scan _ g s k' := (S3.out.alloc (.cells #[.int .i64 ta, .int .i64 tn, .string tt, .bool (gapB s ((j : Int) - 1)), .bool (gapB s (k' : Int))] 46)).alloc (.cells #[.int .i64 ta, .int .i64 tn, .string tt, .bool (gapB s ((j : Int) - 1)), .bool (gapB s (k' : Int))] 46)
                  refine (hgr1.block g h1.lt (fun e => ?_)).trans h1
                  have := (O3.out.lt g e.symm).1
                  omega
                · exact Lib.hid ((B3.out.trans ((below2 (Below.refl _ _) (Nat.le_refl _) _ _).mono B3.out.size)).grown hgr1 (by have := B3.out.size; simp; omega) (fun b hb => by have := (O3.out.lt b hb).1; have := HGE.out; omega))
              case measure => omega
        · have HK : Hid (∀ w, Scan w g s k → Calls Tryd.prog 52 #[.pointer (some ⟨g, 0, none⟩)] w fun e w' => e = .returned (.bool false) ∧ Hid (Scan w' g s (blankEnd s k) ∧ w.grownBy w' (some g))) := fun w h => (HK0.out w h).mono fun e w' hh => ⟨by rw [hh.1, decide_eq_false hlt], hh.2⟩
          have HRS : Hid (scanT s 0 [] = (xs, 0, 0)) := HE.out.symm.trans (scanT_end hlt)
          obtain ⟨j, hj⟩ : ∃ j, blankEnd s k = j := ⟨_, rfl⟩
          rw [hj] at HK
          clear hj hlt HK0 hkj
          go_wp2_with (go_at_call 52; refine (HK.out _ HS.out).mono ?_; rintro e w2 ⟨rfl, hp⟩; have O2 := Lib.hid (own_scan HO.out hp.out.2); have B2 := Lib.hid (below_scan HW.out hp.out.2 HGE.out); clear hp)
          obtain ⟨A, cap, rfl, hrow⟩ := own_row O2.out
          refine bodyPost_ret (v := .tuple #[.slice A xs.length cap, .int .i64 0, .int .i64 0]) (by simp [results, Tryd.results14, go_sem]) rfl ?_
          rw [HRS.out]
          exact retsT_ownG (n := 0) HGE.out O2.out B2.out
  · have j0 : decide (4000 < (s.size : Int)) = true := decide_eq_true (by omega)
    rw [tokensT_no (fun h2 => h h2.1)]
    clear h
    go_enter Tryd.func14, Tryd.ntmps14
    go_wp2_with fail
    refine bodyPost_ret (v := .tuple #[.slice none 0 0, .int .i64 0, .int .i64 1]) (by simp [results, Tryd.results14, go_sem]) rfl ?_
    exact retsT_nil (n := 0) (Below.refl _ _)
end Go.Proofs.YtdfikepfjdoooaaDoor
