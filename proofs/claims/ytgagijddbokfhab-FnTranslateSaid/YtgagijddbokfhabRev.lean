/- Contracts: slices.Reverse of bytes, ReverseText of the program and of the model. Condition: the string is not longer than the law lets it be. -/
import Derived.Test.YtgagijddbokfhabConvB
import Derived.Test.YtgagijddbokfhabMark0
import Derived.OwnWalk
import Derived.Maps.AppendAt
import Derived.WalkSpells
import Derived.IntWalk
import Derived.RegionTactic
import Derived.Deep.LoopGhost
namespace Go.Proofs.Ytgagijddbokfhab
open Go Go.RowKit

/-- The bytes in reverse order. -/
def revE (s : ByteArray) : ByteArray := ⟨s.data.toList.reverse.toArray⟩
theorem revE_size (s : ByteArray) : (revE s).size = s.size := by unfold revE; rw [size_mk, List.length_reverse, Lib.size_eq]
theorem revE_bt (s : ByteArray) (j : Nat) (h : j < s.size) : PlainAid.bt (revE s) j = PlainAid.bt s (s.size - 1 - j) := by
  have hl : s.data.toList.length = s.size := (Lib.size_eq s).symm
  rw [revE, bt_mk _ j (by rw [List.length_reverse, hl]; exact h), List.getElem_reverse, bt_data s _ (by omega)]
  congr 3
theorem revE_revE (s : ByteArray) : revE (revE s) = s := by
  refine bt_ext (by rw [revE_size, revE_size]) fun j hj => ?_
  rw [revE_size, revE_size] at hj
  rw [revE_bt _ j (by rw [revE_size]; exact hj), revE_size, revE_bt _ _ (by omega)]
  congr 1
  omega

/-- What stands at p once the outer i bytes of each end are exchanged. -/
def swapped (n i p : Nat) : Nat := if p < i ∨ n ≤ p + i then n - 1 - p else p

set_option maxHeartbeats 2000000 in
set_option maxRecDepth 100000 in
theorem reverse_any (y : ByteArray) (g c : Nat) (w : World) (hz : y.size ≤ 1048576) (hy : ∀ j, j < y.size → w.cell? ⟨g, j, none⟩ = some (.int .u8 (PlainAid.bt y j)) ∧ w.frozen? ⟨g, j, none⟩ = false) :
    Calls Try.prog 15 #[.slice (some ⟨g, 0, none⟩) y.size c] w fun e w' => e = .returned (.tuple #[]) ∧ (∀ j, j < y.size → w'.cell? ⟨g, j, none⟩ = some (.int .u8 (PlainAid.bt (revE y) j))) ∧ (∀ B, B ≤ g → Below B w w') := by
  have HY := Lib.hid hy
  clear hy
  obtain ⟨n, hn⟩ : ∃ n, y.size = n := ⟨_, rfl⟩
  have HN := Lib.hid hn
  rw [hn] at hz
  rw [hn]
  clear hn
  go_enter Try.func15, Try.ntmps15
  go_wp2_with fail
  go_loopg [2, 3] n (fun k s2 s3 wr => ∃ (i : Nat) (jz : Int), s2 = .int .i64 i ∧ s3 = .int .i64 jz ∧ jz = (n : Int) - 1 - i ∧ i ≤ n ∧ Hid (∀ p, p < n → wr.cell? ⟨g, p, none⟩ = some (.int .u8 (PlainAid.bt y (swapped n i p))) ∧ wr.frozen? ⟨g, p, none⟩ = false) ∧ Hid (∀ B, B ≤ g → Below B w wr) ∧ n - 2 * i ≤ k)
  case atStart =>
    refine ⟨0, (n : Int) - 1, rfl, rfl, by omega, Nat.zero_le _, fun p hp => ?_, fun B _ => Below.refl _ _, by omega⟩
    have := HY.out p (by rw [HN.out]; exact hp)
    rw [swapped, if_neg (by omega)]
    exact this
  case round =>
    obtain ⟨i, jz, rfl, rfl, hj, hi, HC, HB, hk⟩ := hrel
    by_cases hlt : (i : Int) < jz
    · obtain ⟨jn, rfl⟩ : ∃ jn : Nat, jz = jn := ⟨jz.toNat, by omega⟩
      have hij : i < jn := by omega
      have hjn : jn + 1 + i = n := by omega
      have ci := (HC.out i (by omega)).1
      have fi := (HC.out i (by omega)).2
      have cj := (HC.out jn (by omega)).1
      have fj := (HC.out jn (by omega)).2
      rw [swapped, if_neg (by omega)] at ci cj
      have hne : ¬ i = jn := by omega
      have hne' : ¬ jn = i := by omega
      clear hj
      go_wp2_with fail
      go_region
      go_wp2_with fail
      go_roundg (n - 2 * (i + 1))
      case measure => omega
      case rel =>
        refine ⟨i + 1, (jn : Int) - 1, by go_num, rfl, by omega, by omega, fun p hp => ?_, fun B hB => ?_, Nat.le_refl _⟩
        · have hp' := HC.out p hp
          refine ⟨?_, by rw [show ∀ w : World, w.drew.frozen? ⟨g, p, none⟩ = w.frozen? ⟨g, p, none⟩ from fun _ => rfl, World.frozen?_setCell, World.frozen?_setCell]; exact hp'.2⟩
          rw [show ∀ w : World, w.drew.cell? ⟨g, p, none⟩ = w.cell? ⟨g, p, none⟩ from fun _ => rfl]
          by_cases h1 : p = jn
          · subst h1
            rw [World.cell?_setCell_same _ _ _ (u := .int .u8 (PlainAid.bt y p)) (by rw [World.cell?_setCell_other _ _ _ _ (by simp; try omega)]; exact cj)]
            congr 3
            unfold swapped
            rw [if_pos (by omega)]
            omega
          · rw [World.cell?_setCell_other _ _ _ _ (by simp; try omega)]
            by_cases h2 : p = i
            · subst h2
              rw [World.cell?_setCell_same _ _ _ ci]
              congr 3
              unfold swapped
              rw [if_pos (by omega)]
              omega
            · rw [World.cell?_setCell_other _ _ _ _ (by simp; try omega), hp'.1]
              congr 3
              unfold swapped
              split <;> split <;> first | rfl | omega
        · exact (((HB.out B hB).setCell hB _).setCell hB _).drew
    · go_wp2_with fail
      go_end0
      refine ⟨rfl, fun p hp => ?_, HB.out⟩
      rw [(HC.out p hp).1, revE_bt y p (by rw [HN.out]; exact hp), HN.out]
      congr 3
      unfold swapped
      split
      · rfl
      · omega

set_option maxHeartbeats 1000000 in
theorem impl_ReverseText_any (s : ByteArray) (W : World) (hs : s.size ≤ 1048576) :
    Calls Try.prog 8 #[.string s] W fun e w' => e = .returned (.string (revE s)) ∧ Below W.heap.size W w' := by
  obtain ⟨C, w1, h1, h2, h3, h4⟩ := conv_sb s W
  have H2 := Lib.hid h2
  have H3 := Lib.hid h3
  have HS := Lib.hid hs
  clear h2 h3 h4
  go_enter Try.func8, Try.ntmps8
  go_wp2_with (go_at_call 15; refine (reverse_any s W.heap.size C w1 HS.out H2.out).mono ?_; rintro e w2 ⟨rfl, hc, hb⟩; have HB := Lib.hid (H3.out.trans (hb _ (Nat.le_refl _))); have h5 := conv_bs w2 W.heap.size s.size C (revE s) (revE_size s) hc; clear hc hb)
  go_ret
  exact ⟨rfl, HB.out⟩

/-- The last k bytes, from the last one on. -/
theorem revE_snoc (s : ByteArray) (k : Nat) (h : k < s.size) : (List.range (k + 1)).map (fun j => Value.int .u8 (PlainAid.bt (revE s) j)) = (List.range k).map (fun j => Value.int .u8 (PlainAid.bt (revE s) j)) ++ [.int .u8 (PlainAid.bt s (s.size - 1 - k))] := by
  rw [List.range_succ, List.map_append, List.map_singleton, revE_bt s k h]
theorem byteInfoR : (Try.prog.info? 5).map (fun i => (i.zero, i.size, i.bytes)) = some (some (Value.int .u8 0), 1, 1) := by kernel_rfl
theorem own_ge' {w : World} {base n : Nat} {e : TypeId} {v : Value} {xs : List Value} (h : w.ownsRow base e 1 v n xs) : ∀ k, v.ownBlock = some k → base ≤ k := fun k hk => by
  rcases h.2 with ⟨rfl, _⟩ | ⟨g, cap, cur, rfl, hg, _⟩
  · simp [Value.ownBlock] at hk
  · simp [Value.ownBlock] at hk
    omega
/-- A row of one's own whose elements are the bytes of y is turned into y. -/
theorem conv_own {w : World} {base n : Nat} {v : Value} {y : ByteArray} (hy : y.size = n) (h : w.ownsRow base 5 1 v n ((List.range n).map (fun j => Value.int .u8 (PlainAid.bt y j)))) :
    (convert 29 9 v).run Try.prog w = .ok (.string y) w := by
  rcases h.2 with ⟨rfl, h0⟩ | ⟨g, cap, cur, rfl, hg, hh, hnc, hl, hcs, ht⟩
  · subst h0
    have hy0 : y = ⟨#[]⟩ := bt_ext (by rw [hy]; rfl) fun j hj => by omega
    subst hy0
    rw [run_convert_bytes_string (P := Try.prog) w 29 9 5 none 0 0 Try.underlying29 Try.underlying5 Try.underlying9]
    rfl
  · refine conv_bs w g n cap y hy fun j hj => ?_
    have h1 := congrArg (·[j]?) ht
    simp only [List.getElem?_take, Nat.mul_one, if_pos hj, List.getElem?_map, List.getElem?_range hj, Option.map_some, Array.getElem?_toList] at h1
    simp [World.cell?, hh, h1]

set_option maxHeartbeats 1000000 in
theorem spec_ReverseText_any (s : ByteArray) (W : World) (hs : s.size ≤ 1048576) :
    Calls Try.prog 7 #[.string s] W fun e w' => e = .returned (.string (revE s)) ∧ Below W.heap.size W w' := by
  obtain ⟨i0, hi0, hz0, hz1, hz2⟩ := info_parts byteInfoR
  have hb := PlainAid.get_bt s
  go_enter Try.func7, Try.ntmps7
  go_wp2_with fail
  go_loopw [3, 4] (fun v q wr => ∃ (k : Nat) (z : Int), q = .int .i64 z ∧ z = (s.size : Int) - 1 - k ∧ k ≤ s.size ∧ Hid (wr.ownsRow W.heap.size 5 1 v k ((List.range k).map (fun j => Value.int .u8 (PlainAid.bt (revE s) j)))) ∧ Hid (Below W.heap.size W wr)) (fun _ q _ => (intOf q + 1).toNat)
  case atStart => exact ⟨0, (s.size : Int) - 1, rfl, by omega, Nat.zero_le _, World.ownsRow_lit W #[] 0 (Nat.le_refl _) (by decide) rfl, (Below.refl _ _).alloc (Nat.le_refl _) _⟩
  case round =>
    obtain ⟨k, z, rfl, hz, hk, HO, HW⟩ := hrel
    by_cases hlt : k < s.size
    · obtain ⟨p, rfl⟩ : ∃ p : Nat, z = p := ⟨z.toNat, by omega⟩
      have hps : p < s.size := by omega
      have hp : p = s.size - 1 - k := by omega
      have HP := Lib.hid hp
      have d0 : (0 : Int) ≤ p := by omega
      have HS := Lib.hid (revE_snoc s k hlt)
      rw [← hp] at HS
      clear hp hz
      go_wp2_with (at_builtin; refine wpList_append_own _ rfl _ _ 29 rfl W.heap.size 5 i0 (.int .u8 0) 1 1 Try.underlying29 hi0 hz0 hz1 hz2 rfl (by decide) _ _ _ rfl (HO.out.alloc _) ⟨wr.heap.size, 0, none⟩ 1 1 [.int .u8 (PlainAid.bt s p)] rfl rfl (cell_one_new _ _ _) (fun x hx => by simp at hx; subst hx; rfl) (by unfold maxLen; omega) (by omega) (by have := HW.out.size; simp; omega) ?_; intro v1 w1 hown1 hgr1 _)
      go_roundw
      case rel =>
        refine ⟨k + 1, (p : Int) - 1, by go_num, by have := HP.out; omega, hlt, ?_, ?_⟩
        · show World.ownsRow _ _ _ _ _ _ _
          rw [HS.out]
          simpa using hown1
        · exact (HW.out.alloc HW.out.size _).grown hgr1 (by have := HW.out.size; simp; omega) (own_ge' HO.out)
      case measure => first | (simp [intOf]; done) | (simp [intOf]; omega)
    · obtain rfl : k = s.size := by omega
      have hz1 : ¬ (0 : Int) ≤ z := by omega
      have hcv := conv_own (y := revE s) (revE_size s) HO.out
      clear hz
      go_wp2_with fail
      go_ret
      exact ⟨rfl, HW.out⟩
end Go.Proofs.Ytgagijddbokfhab
