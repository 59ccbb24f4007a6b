/- Contract of the scanner's takeWhile. Conditions: the scanner's block, the table. -/
import Derived.Test.YtdfikepfjdoooaaDoorRead2
namespace Go.Proofs.YtdfikepfjdoooaaDoor
open Go Go.RowKit

theorem Scan.below {w w' : World} {g k B : Nat} {s : ByteArray} (h : Scan w g s k) (hb : Below B w w') (hg : g < B) : Scan w' g s k := by
  unfold Scan at h ⊢
  rw [← h]
  exact hb.block g hg
theorem bt_tail (s : ByteArray) (k j : Nat) (hj : k + j < s.size) : PlainAid.bt (s.extract k s.size) j = PlainAid.bt s (k + j) := by
  have h0 : (s.extract k s.size).size = s.size - k := by simp
  have h1 : j < (s.extract k s.size).data.toList.length := by rw [← Lib.size_eq, h0]; omega
  have h2 : k + j < s.data.toList.length := by rw [← Lib.size_eq]; omega
  rw [bt_data _ j h1, bt_data s (k + j) h2]
  congr 2
  simp only [Lib.extract_data, List.getElem_take, List.getElem_drop]
theorem runEnd_run {p : Int → Bool} {s : ByteArray} {k : Nat} : ∀ j : Nat, k + j ≤ s.size → (∀ i, i < j → p (PlainAid.bt s (k + i)) = true) → runEnd p s k = runEnd p s (k + j)
  | 0, _, _ => rfl
  | j + 1, h, hq => by
    rw [runEnd_run j (by omega) (fun i hi => hq i (by omega)), runEnd_step (by omega) (hq j (by omega))]
    rfl
theorem str_tail {s : ByteArray} {a b k : Nat} (h : a = b) : Ending.returned (.string (s.extract k a)) = .returned (.string (s.extract k b)) := by rw [h]

set_option maxHeartbeats 2000000 in
set_option maxRecDepth 100000 in
theorem takeWhile_any (f : FuncId) (p : Int → Bool) (hf : ∀ (a : Array Value) (w : World), (callFunc f a).run Tryd.prog w = .ok (.enter f a) w) (hp : ∀ r V, Classes V → Calls Tryd.prog f #[.int .i32 r] V fun e w' => e = .returned (.bool (p r)) ∧ V = w') (hhi : ∀ r, 128 ≤ r → p r = false)
    (g k : Nat) (s : ByteArray) (W : World) (hs : Scan W g s k) (hk : k < s.size) (hl : s.size ≤ 1048576) (hT : Classes W) (hg : 0 < g) :
    Calls Tryd.prog 126 #[.pointer (some ⟨g, 0, none⟩), .func (Fn.func f) #[] #[]] W fun e w' => e = .returned (.string (s.extract k (runEnd p s k))) ∧ Hid (Scan w' g s (runEnd p s k) ∧ W.grownBy w' (some g)) := by
  have HP := Lib.hid hp
  have HT := Lib.hid hT
  have HS := Lib.hid hs
  have HH := Lib.hid hhi
  have HE := Lib.hid (bt_tail s k)
  have h0 := hs.c0
  have h1 := hs.c1
  have f1 := hs.f1
  clear hs hT hp hhi
  have i0 : (0 : Int) ≤ (k : Int) := by omega
  have i1 : (k : Int) < (s.size : Int) := by omega
  have i2 : (k : Int) ≤ (s.size : Int) := by omega
  go_enter Tryd.func126, Tryd.ntmps126
  go_wp2_with fail
  have hB : Scan (W.setCell ⟨g, 1, none⟩ (.int .i64 (s.size : Int))) g s s.size := HS.out.move 0 0 s.size
  have hG : W.grownBy _ (some g) := only_cell W g 1 (.int .i64 (s.size : Int))
  have hz : W.heap.size = (W.setCell ⟨g, 1, none⟩ (.int .i64 (s.size : Int))).heap.size := by simp [World.setCell]
  have HT1 : Hid (Classes (W.setCell ⟨g, 1, none⟩ (.int .i64 (s.size : Int)))) := HT.out.below (below_of hG (Nat.le_of_lt HS.out.lt)) hg
  have HZ := Lib.hid HS.out.lt
  obtain ⟨b, hbz⟩ : ∃ b, W.heap.size = b := ⟨_, rfl⟩
  rw [hbz] at hz HZ ⊢
  generalize W.setCell ⟨g, 1, none⟩ (.int .i64 (s.size : Int)) = w1 at hB hG hz HT1 ⊢
  subst hz
  clear h0 h1 f1 hbz
  have HB := Lib.hid hB
  have HG := Lib.hid hG
  clear hB hG
  obtain ⟨y, hy⟩ : ∃ y, s.extract k s.size = y := ⟨_, rfl⟩
  rw [hy] at HE ⊢
  have hys : y.size = s.size - k := by rw [← hy]; simp
  have HY := Lib.hid hys
  clear hy hys
  go_loopw [] (fun w' => ∃ j : Nat, j ≤ y.size ∧ w' = w1.iter y j ∧ Hid (∀ i, i < j → p (PlainAid.bt s (k + i)) = true)) (fun w' => y.size - w'.iterPos w1.heap.size)
  case atStart => exact ⟨0, Nat.zero_le _, rfl, fun _ h => absurd h (by omega)⟩
  case round =>
    obtain ⟨j, hj, rfl, hq⟩ := hrel
    by_cases hlt : j < y.size
    · have b0 := PlainAid.bt_nonneg y j
      have b1 := PlainAid.bt_le y j
      have hb := PlainAid.get_bt y j hlt
      have hbt := HE.out j (by have := HY.out; omega)
      by_cases hx : p (PlainAid.bt y j) = true
      · have HX : Hid (p (PlainAid.bt y j) = true) := hx
        have hsmall : PlainAid.bt y j < 128 := by
          by_cases hh : 128 ≤ PlainAid.bt y j
          · rw [HH.out _ hh] at hx
            cases hx
          · omega
        have hd := decode_ascii y j hlt (by omega)
        have hnx : ∀ ty, (Instr.next (.pointer (some ⟨w1.heap.size, 0, none⟩)) true ty).run Tryd.prog (w1.iter y j) = .ok (.tuple #[.bool true, .int .i64 j, .int .i32 (PlainAid.bt y j)]) (w1.iter y (j + 1)) := fun ty => by
          rw [run_next_any w1 y j ty hlt, hd]
          simp only [hb]
        rw [hbt] at hx
        have HX2 := Lib.hid hx
        clear hd hx hb hsmall hbt b0 b1
        have HT3 : Hid (Classes (w1.iter y (j + 1))) := HT1.out.below (below_iter (Below.refl _ _) (Nat.le_of_lt HZ.out) _ _) hg
        go_wp2_with (refine (HP.out _ _ HT3.out).mono ?_; rintro e w' ⟨rfl, rfl⟩; rw [HX.out])
        go_roundw
        case rel => exact ⟨j + 1, by omega, rfl, upto_succ hq.out HX2.out⟩
        case measure => simp; omega
      · have h2 : p (PlainAid.bt y j) = false := by simpa using hx
        have hbad : p ((Utf8.decode y j).1 : Int) = false := by
          by_cases ha : (y[j]'hlt).toNat < 128
          · rw [decode_ascii y j hlt ha]
            simp only [hb]
            exact h2
          · exact HH.out _ (by have := (decode_high y j hlt (by omega)).1; omega)
        have hnx : ∀ ty, (Instr.next (.pointer (some ⟨w1.heap.size, 0, none⟩)) true ty).run Tryd.prog (w1.iter y j) = _ := fun ty => run_next_any w1 y j ty hlt
        generalize (Utf8.decode y j).1 = r at hbad hnx
        generalize (Utf8.decode y j).2 = u at hnx
        rw [hbt] at h2
        have HX := Lib.hid hbad
        obtain ⟨m, hm⟩ : ∃ m, k + j = m := ⟨_, rfl⟩
        have hms : m < s.size := by have := HY.out; omega
        have HR : Hid (runEnd p s k = m) := by
          have h3 := runEnd_run j (by omega) hq.out
          rw [hm] at h2 h3
          exact h3.trans (runEnd_stop fun _ => h2)
        have m0 : (k : Int) + (j : Int) = (m : Int) := by omega
        have m1 : IntKind.i64.wrap (m : Int) = (m : Int) := IntWalk.i64_in _ (by omega)
        have m2 : (k : Int) ≤ (m : Int) := by omega
        have m3 : (m : Int) ≤ (s.size : Int) := by omega
        have hlow : Below w1.heap.size w1 (w1.iter y (j + u)) := below_iter (Below.refl _ _) (Nat.le_refl _) _ _
        have HT3 : Hid (Classes (w1.iter y (j + u))) := HT1.out.below (hlow.mono (Nat.le_of_lt HZ.out)) hg
        have hB3 : Scan (w1.iter y (j + u)) g s s.size := HB.out.below hlow HZ.out
        have hG3 : W.grownBy (w1.iter y (j + u)) (some g) := only_trans HG.out (World.grownBy_alloc w1 _ _)
        clear hx h2 hb hbt b0 b1 hbad hlow hm
        generalize w1.iter y (j + u) = w2 at hnx HT3 hB3 hG3
        have h0 := hB3.c0
        have h1 := hB3.c1
        have f1 := hB3.f1
        have HB3 : Hid (Scan (w2.setCell ⟨g, 1, none⟩ (.int .i64 (m : Int))) g s m) := hB3.move 0 0 m
        have HG3 : Hid (W.grownBy (w2.setCell ⟨g, 1, none⟩ (.int .i64 (m : Int))) (some g)) := only_trans hG3 (only_cell w2 g 1 (.int .i64 (m : Int)))
        clear hB3 hG3
        go_wp2_with (refine (HP.out _ _ HT3.out).mono ?_; rintro e w' ⟨rfl, rfl⟩; rw [HX.out])
        have hB3 := HB3.out
        have hG3 := HG3.out
        clear h0 h1 f1 HB3 HG3 m0 m1
        generalize w2.setCell ⟨g, 1, none⟩ (.int .i64 (m : Int)) = w3 at hB3 hG3 ⊢
        have h0 := hB3.c0
        have h1 := hB3.c1
        go_quiet (fail)
        go_wp2_with fail
        go_ret
        exact ⟨str_tail HR.out.symm, by rw [HR.out]; exact Lib.hid ⟨hB3, only_trans hG3 (only_draw _ g _)⟩⟩
    · obtain rfl : j = y.size := by omega
      have HR : Hid (runEnd p s k = s.size) := by
        have h3 := runEnd_run y.size (by have := HY.out; omega) hq.out
        have hm : k + y.size = s.size := by have := HY.out; omega
        rw [hm] at h3
        exact h3.trans (runEnd_stop fun h => absurd h (by omega))
      have hnx : ∀ ty, (Instr.next (.pointer (some ⟨w1.heap.size, 0, none⟩)) true ty).run Tryd.prog (w1.iter y y.size) = _ := fun ty => run_next_end w1 y y.size ty hlt
      have hlow : Below w1.heap.size w1 (w1.iter y y.size) := below_iter (Below.refl _ _) (Nat.le_refl _) _ _
      have hB3 : Scan (w1.iter y y.size) g s s.size := HB.out.below hlow HZ.out
      have hG3 : W.grownBy (w1.iter y y.size) (some g) := only_trans HG.out (World.grownBy_alloc w1 _ _)
      clear hlow
      have HB3 := Lib.hid hB3
      have HG3 := Lib.hid hG3
      clear hB3 hG3
      go_wp2_with fail
      have h0 := HB3.out.c0
      have h1 := HB3.out.c1
      go_quiet (fail)
      go_wp2_with fail
      go_ret
      exact ⟨str_tail HR.out.symm, by rw [HR.out]; exact Lib.hid ⟨HB3.out, only_trans HG3.out (only_draw _ g _)⟩⟩
end Go.Proofs.YtdfikepfjdoooaaDoor
