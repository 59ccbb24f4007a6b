/- Contracts: slices.Grow, slices.Concat at two slices of strings. No condition but that they are short. -/
import Derived.Test.YtnedihiagaepjaaDoorApp
import Derived.Lib.AppendZeros
namespace Go.Proofs.YtnedihiagaepjaaDoor
open Go Go.RowKit

theorem stInfo : ∃ i0, Tryd.prog.info? 9 = some i0 ∧ i0.zero = some (Value.string ⟨#[]⟩) ∧ i0.size = 1 ∧ i0.bytes = 16 := info_parts infoSt

set_option maxHeartbeats 1000000 in
set_option maxRecDepth 100000 in
theorem growS_any (n : Nat) (W : World) (hn : n ≤ 100000) :
    Calls Tryd.prog 108 #[.slice none 0 0, .int .i64 n] W fun e w' => ∃ v, e = .returned v ∧ w'.ownsRow W.heap.size 9 1 v 0 [] ∧ Below W.heap.size W w' := by
  obtain ⟨i0, hi0, hz0, hz1, hz2⟩ := stInfo
  have hneg : ¬ ((n : Int) < 0) := by omega
  have hsub : wrap64 ((0 : Int) - 0) = 0 := by unfold wrap64; omega
  have hsub2 : wrap64 ((n : Int) - 0) = n := by unfold wrap64; omega
  by_cases h0 : n = 0
  · subst h0
    go_enter Tryd.func108, Tryd.ntmps108
    go_wp2_with fail
    go_ret
    exact ⟨_, rfl, World.ownsRow_nil _ _ _ _, Below.refl _ _⟩
  · have hpos : (0 : Int) < (n : Int) := by omega
    have HR := Lib.hid (fun w => Lib.run_append_nil_zeros (P := Tryd.prog) w 41 3 41 9 i0 (.string ⟨#[]⟩) .i64 .i64 Tryd.underlying41 Tryd.underlying3 hi0 hz0 n (by omega) (by omega) (by omega) (by rw [hz2]; omega))
    have HO : Hid (∀ c : Nat, c ≤ maxLen → n ≤ c → (W.drew.alloc (.cells (Builtin.zeroCells #[Value.string ⟨#[]⟩] n ++ Builtin.zeroCells #[Value.string ⟨#[]⟩] (c - n)) 9)).ownsRow W.heap.size 9 1 (.slice (some ⟨W.heap.size, 0, none⟩) 0 c) 0 []) := by
      show ∀ _, _
      intro c hc hnc
      refine ⟨rfl, .inr ⟨W.heap.size, c, _, rfl, Nat.le_refl _, heap_alloc_new W.drew _, Nat.zero_le _, hc, ?_, rfl⟩⟩
      simp only [Array.size_append, size_zeroCells, List.size_toArray, List.length_cons, List.length_nil]
      omega
    have hcap : grownCap W n 0 9 ≤ maxLen := grownCap_le_maxLen W n 0 _ (by unfold maxLen; omega)
    have hge := grownCap_ge W n 0 9
    go_enter Tryd.func108, Tryd.ntmps108
    go_wp2_with (at_builtin; refine Lib.wpList_append_run _ rfl _ _ _ _ rfl _ _ rfl rfl _ _ (HR.out _) ?_)
    go_ret
    exact ⟨_, rfl, HO.out _ hcap hge, ((Below.refl W.heap.size W).drew).alloc (Nat.le_refl _) _⟩

set_option maxHeartbeats 4000000 in
set_option maxRecDepth 100000 in
theorem concatS_any (g : Nat) (A1 A2 : Option Addr) (m1 c1 m2 c2 : Nat) (xs ys : List St) (W : World) (hg : g < W.heap.size) (h0 : W.cell? ⟨g, 0, none⟩ = some (.slice A1 m1 c1)) (h1 : W.cell? ⟨g, 1, none⟩ = some (.slice A2 m2 c2)) (hx : StI W W.heap.size A1 m1 xs) (hy : StI W W.heap.size A2 m2 ys) (hm1 : m1 ≤ 1000) (hm2 : m2 ≤ 1000) (hsx : ∀ (j : Nat) (x : St), xs[j]? = some x → ByteArray.size x ≤ maxLen) (hsy : ∀ (j : Nat) (x : St), ys[j]? = some x → ByteArray.size x ≤ maxLen) :
    Calls Tryd.prog 106 #[.slice (some ⟨g, 0, none⟩) 2 2] W fun e w' => ∃ A c, e = .returned (.slice A (m1 + m2) c) ∧ Hid (m1 + m2 ≤ c ∧ StI w' w'.heap.size A (m1 + m2) (xs ++ ys) ∧ Below W.heap.size W w') := by
  obtain ⟨i0, hi0, hz0, hz1, hz2⟩ := stInfo
  have HX := Lib.hid hx
  have HY := Lib.hid hy
  have HSX := Lib.hid hsx
  have HSY := Lib.hid hsy
  have H0 := Lib.hid h0
  have H1 := Lib.hid h1
  have HG := Lib.hid hg
  have HLX := Lib.hid hx.1
  have HLY := Lib.hid hy.1
  clear hx hy hsx hsy hg
  obtain ⟨s, hs⟩ : ∃ s, m1 + m2 = s := ⟨_, rfl⟩
  have HSM := Lib.hid hs
  rw [hs]
  have hss : s ≤ 2000 := by omega
  have w1 : wrap64 (0 + (m1 : Int)) = m1 := by unfold wrap64; omega
  have w2 : wrap64 ((m1 : Int) + (m2 : Int)) = s := by unfold wrap64; omega
  have n1 : ¬ ((m1 : Int) < 0) := by omega
  have n2 : ¬ ((s : Int) < 0) := by omega
  go_enter Tryd.func106, Tryd.ntmps106
  go_wp2_with fail
  go_loopw [3, 11] (fun q i wr => Hid (wr = W) ∧ ((q = .int .i64 0 ∧ i = .int .i64 0) ∨ (q = .int .i64 m1 ∧ i = .int .i64 1) ∨ (q = .int .i64 s ∧ i = .int .i64 2))) (fun _ i _ => 2 - (intOf i).toNat)
  case atStart => exact ⟨Lib.hid rfl, .inl ⟨rfl, rfl⟩⟩
  case round =>
    obtain ⟨HW, hr⟩ := hrel
    have eW := HW.out.symm
    clear HW
    subst eW
    rcases hr with ⟨rfl, rfl⟩ | ⟨rfl, rfl⟩ | ⟨rfl, rfl⟩
    · go_wp2_with fail
      go_roundw
      case rel => exact ⟨Lib.hid trivial, .inr (.inl ⟨by go_num, by go_num⟩)⟩
      case measure => simp [intOf]
    · go_wp2_with fail
      go_roundw
      case rel => exact ⟨Lib.hid trivial, .inr (.inr ⟨by go_num, by go_num⟩)⟩
      case measure => simp [intOf]
    · clear h0 h1
      go_wp2_with (go_at_call 108; have HQ := growS_any s W (by omega); refine Calls.mono HQ ?_; clear HQ; rintro e wg ⟨v, rfl, hown, hb⟩; have HO := Lib.hid hown; have HB := Lib.hid hb; clear hown hb)
      go_loopw [6, 27] (fun u i wr => Hid (Below W.heap.size W wr) ∧ ((i = .int .i64 0 ∧ Hid (wr.ownsRow W.heap.size 9 1 u 0 [])) ∨ (i = .int .i64 1 ∧ Hid (wr.ownsRow W.heap.size 9 1 u m1 (valsSt xs))) ∨ (i = .int .i64 2 ∧ Hid (wr.ownsRow W.heap.size 9 1 u s (valsSt (xs ++ ys)))))) (fun _ i _ => 2 - (intOf i).toNat)
      case atStart => exact ⟨HB, .inl ⟨rfl, HO⟩⟩
      case round =>
        obtain ⟨HBB, hr⟩ := hrel
        rcases hr with ⟨rfl, HOO⟩ | ⟨rfl, HOO⟩ | ⟨rfl, HOO⟩
        · have q0 := (HBB.out.cell (p := ⟨g, 0, none⟩) HG.out).trans H0.out
          go_wp2_with (at_builtin; refine wpList_append_src _ rfl _ _ 41 rfl W.heap.size 9 i0 (.string ⟨#[]⟩) 1 16 Tryd.underlying41 hi0 hz0 hz1 hz2 rfl (by decide) _ 0 [] rfl HOO.out A1 m1 c1 (valsSt xs) rfl (by rw [valsSt_len]; have := HLX.out; omega) (StI.src (HX.out.below HBB.out)) (valsSt_one _) (by unfold maxLen; omega) (by omega) HBB.out.size ?_; intro v2 wz hown2 hgr2; have HO2 := Lib.hid hown2; have HB2 : Hid (Below W.heap.size W wz) := HBB.out.grown hgr2 HBB.out.size (fun b hb => own_ge HOO.out b hb); clear hown2 hgr2)
          go_roundw
          case rel => exact ⟨HB2, .inr (.inl ⟨by go_num, by have h := HO2.out; rw [Nat.zero_add, List.nil_append] at h; exact h⟩)⟩
          case measure => simp [intOf]
        · have q0 := (HBB.out.cell (p := ⟨g, 1, none⟩) HG.out).trans H1.out
          go_wp2_with (at_builtin; refine wpList_append_src _ rfl _ _ 41 rfl W.heap.size 9 i0 (.string ⟨#[]⟩) 1 16 Tryd.underlying41 hi0 hz0 hz1 hz2 rfl (by decide) _ m1 (valsSt xs) rfl HOO.out A2 m2 c2 (valsSt ys) rfl (by rw [valsSt_len]; have := HLY.out; omega) (StI.src (HY.out.below HBB.out)) (valsSt_one _) (by unfold maxLen; omega) (by omega) HBB.out.size ?_; intro v2 wz hown2 hgr2; have HO2 := Lib.hid hown2; have HB2 : Hid (Below W.heap.size W wz) := HBB.out.grown hgr2 HBB.out.size (fun b hb => own_ge HOO.out b hb); clear hown2 hgr2)
          go_roundw
          case rel => exact ⟨HB2, .inr (.inr ⟨by go_num, by have h := HO2.out; rw [valsSt_append, HSM.out] at h; exact h⟩)⟩
          case measure => simp [intOf]
        · go_wp2_with fail
          go_ret
          obtain ⟨A, c, rfl, hc, hi⟩ := own_StI HOO.out (fun j x hx => by
            rcases Nat.lt_or_ge j xs.length with h | h
            · rw [List.getElem?_append_left h] at hx; exact HSX.out j x hx
            · rw [List.getElem?_append_right h] at hx; exact HSY.out _ x hx)
          exact ⟨A, c, rfl, Lib.hid ⟨hc, hi, HBB.out⟩⟩
end Go.Proofs.YtnedihiagaepjaaDoor
