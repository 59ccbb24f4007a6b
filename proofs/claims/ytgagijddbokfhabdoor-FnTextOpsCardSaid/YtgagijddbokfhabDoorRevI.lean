/- Contracts: slices.Reverse of bytes, ReverseText of the program. Condition: the string is not longer than the law lets it be. -/
import Derived.Test.YtgagijddbokfhabDoorConvB
import Derived.Test.YtgagijddbokfhabDoorMark0
import Derived.OwnWalk
import Derived.Maps.AppendAt
import Derived.WalkSpells
import Derived.IntWalk
import Derived.RegionTactic
import Derived.Deep.LoopGhost
namespace Go.Proofs.YtgagijddbokfhabDoor
open Go Go.RowKit

/-- The bytes in reverse order. -/
def revE (s : ByteArray) : ByteArray := ⟨s.data.toList.reverse.toArray⟩
theorem revE_size (s : ByteArray) : (revE s).size = s.size := by unfold revE; rw [size_mk, List.length_reverse, Lib.size_eq]
theorem revE_bt (s : ByteArray) (j : Nat) (h : j < s.size) : PlainAid.bt (revE s) j = PlainAid.bt s (s.size - 1 - j) := by
  have hl : s.data.toList.length = s.size := (Lib.size_eq s).symm
  rw [revE, bt_mk _ j (by rw [List.length_reverse, hl]; exact h), List.getElem_reverse, bt_data s _ (by omega)]
  congr 3
theorem revE_revE (s : ByteArray) : revE (revE s) = s := by
  refine bt_ext (by rw [revE_size, revE_size]) fun j hj => ?_
  rw [revE_size, revE_size] at hj
  rw [revE_bt _ j (by rw [revE_size]; exact hj), revE_size, revE_bt _ _ (by omega)]
  congr 1
  omega

/-- What stands at p once the outer i bytes of each end are exchanged. -/
def swapped (n i p : Nat) : Nat := if p < i ∨ n ≤ p + i then n - 1 - p else p

set_option maxHeartbeats 2000000 in
set_option maxRecDepth 100000 in
theorem reverse_any (y : ByteArray) (g c : Nat) (w : World) (hz : y.size ≤ 1048576) (hy : ∀ j, j < y.size → w.cell? ⟨g, j, none⟩ = some (.int .u8 (PlainAid.bt y j)) ∧ w.frozen? ⟨g, j, none⟩ = false) :
    Calls Tryd.prog 16 #[.slice (some ⟨g, 0, none⟩) y.size c] w fun e w' => e = .returned (.tuple #[]) ∧ (∀ j, j < y.size → w'.cell? ⟨g, j, none⟩ = some (.int .u8 (PlainAid.bt (revE y) j))) ∧ (∀ B, B ≤ g → Below B w w') := by
  have HY := Lib.hid hy
  clear hy
  obtain ⟨n, hn⟩ : ∃ n, y.size = n := ⟨_, rfl⟩
  have HN := Lib.hid hn
  rw [hn] at hz
  rw [hn]
  clear hn
  go_enter Tryd.func16, Tryd.ntmps16
  go_wp2_with fail
  go_loopg [2, 3] n (fun k s2 s3 wr => ∃ (i : Nat) (jz : Int), s2 = .int .i64 i ∧ s3 = .int .i64 jz ∧ jz = (n : Int) - 1 - i ∧ i ≤ n ∧ Hid (∀ p, p < n → wr.cell? ⟨g, p, none⟩ = some (.int .u8 (PlainAid.bt y (swapped n i p))) ∧ wr.frozen? ⟨g, p, none⟩ = false) ∧ Hid (∀ B, B ≤ g → Below B w wr) ∧ n - 2 * i ≤ k)
  case atStart =>
    refine ⟨0, (n : Int) - 1, rfl, rfl, by omega, Nat.zero_le _, fun p hp => ?_, fun B _ => Below.refl _ _, by omega⟩
    have := HY.out p (by rw [HN.out]; exact hp)
    rw [swapped, if_neg (by omega)]
    exact this
  case round =>
    obtain ⟨i, jz, rfl, rfl, hj, hi, HC, HB, hk⟩ := hrel
    by_cases hlt : (i : Int) < jz
    · obtain ⟨jn, rfl⟩ : ∃ jn : Nat, jz = jn := ⟨jz.toNat, by omega⟩
      have hij : i < jn := by omega
      have hjn : jn + 1 + i = n := by omega
      have ci := (HC.out i (by omega)).1
      have fi := (HC.out i (by omega)).2
      have cj := (HC.out jn (by omega)).1
      have fj := (HC.out jn (by omega)).2
      rw [swapped, if_neg (by omega)] at ci cj
      have hne : ¬ i = jn := by omega
      have hne' : ¬ jn = i := by omega
      clear hj
      go_wp2_with fail
      go_region
      go_wp2_with fail
      go_roundg (n - 2 * (i + 1))
      case measure => omega
      case rel =>
        refine ⟨i + 1, (jn : Int) - 1, by go_num, rfl, by omega, by omega, fun p hp => ?_, fun B hB => ?_, Nat.le_refl _⟩
        · have hp' := HC.out p hp
          refine ⟨?_, by rw [show ∀ w : World, w.drew.frozen? ⟨g, p, none⟩ = w.frozen? ⟨g, p, none⟩ from fun _ => rfl, World.frozen?_setCell, World.frozen?_setCell]; exact hp'.2⟩
          rw [show ∀ w : World, w.drew.cell? ⟨g, p, none⟩ = w.cell? ⟨g, p, none⟩ from fun _ => rfl]
          by_cases h1 : p = jn
          · subst h1
            rw [World.cell?_setCell_same _ _ _ (u := .int .u8 (PlainAid.bt y p)) (by rw [World.cell?_setCell_other _ _ _ _ (by simp; try omega)]; exact cj)]
            congr 3
            unfold swapped
            rw [if_pos (by omega)]
            omega
          · rw [World.cell?_setCell_other _ _ _ _ (by simp; try omega)]
            by_cases h2 : p = i
            · subst h2
              rw [World.cell?_setCell_same _ _ _ ci]
              congr 3
              unfold swapped
              rw [if_pos (by omega)]
              omega
            · rw [World.cell?_setCell_other _ _ _ _ (by simp; try omega), hp'.1]
              congr 3
              unfold swapped
              split <;> split <;> first | rfl | omega
        · exact (((HB.out B hB).setCell hB _).setCell hB _).drew
    · go_wp2_with fail
      go_end0
      refine ⟨rfl, fun p hp => ?_, HB.out⟩
      rw [(HC.out p hp).1, revE_bt y p (by rw [HN.out]; exact hp), HN.out]
      congr 3
      unfold swapped
      split
      · rfl
      · omega

set_option maxHeartbeats 1000000 in
theorem impl_ReverseText_any (s : ByteArray) (W : World) (hs : s.size ≤ 1048576) :
    Calls Tryd.prog 9 #[.string s] W fun e w' => e = .returned (.string (revE s)) ∧ Below W.heap.size W w' := by
  obtain ⟨C, w1, h1, h2, h3, h4⟩ := conv_sb s W
  have H2 := Lib.hid h2
  have H3 := Lib.hid h3
  have HS := Lib.hid hs
  clear h2 h3 h4
  go_enter Tryd.func9, Tryd.ntmps9
  go_wp2_with (go_at_call 16; refine (reverse_any s W.heap.size C w1 HS.out H2.out).mono ?_; rintro e w2 ⟨rfl, hc, hb⟩; have HB := Lib.hid (H3.out.trans (hb _ (Nat.le_refl _))); have h5 := conv_bs w2 W.heap.size s.size C (revE s) (revE_size s) hc; clear hc hb)
  go_ret
  exact ⟨rfl, HB.out⟩

end Go.Proofs.YtgagijddbokfhabDoor
