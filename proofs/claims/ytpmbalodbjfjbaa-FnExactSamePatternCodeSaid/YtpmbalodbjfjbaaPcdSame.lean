/- Contracts: SamePatternCode of both. No condition. -/
import Derived.Test.YtpmbalodbjfjbaaPcdEq
import Derived.Test.YtpmbalodbjfjbaaPisSame
import Derived.Test.YtpmbalodbjfjbaaPesSame
namespace Go.Proofs.Ytpmbalodbjfjbaa
open Go Go.RowKit

/-- The model's two boxes. -/
def BoxPc (W : World) (A0 A1 B0 B1 : Option Addr) (n0 c0 n1 c1 m0 d0 m1 d1 : Nat) (w : World) : Prop := RW 31 w W.heap.size #[.slice A0 n0 c0, .slice A1 n1 c1] ∧ RW 31 w (W.heap.size + 1) #[.slice B0 m0 d0, .slice B1 m1 d1] ∧ Below W.heap.size W w
abbrev FlatPcB (W : World) (A0 A1 B0 B1 : Option Addr) (n0 c0 n1 c1 m0 d0 m1 d1 : Nat) (w : World) : Prop := (w.cell? ⟨W.heap.size, 0, none⟩ = some (.slice A0 n0 c0) ∧ w.cell? ⟨W.heap.size, 1, none⟩ = some (.slice A1 n1 c1) ∧ w.cell? ⟨W.heap.size + 1, 0, none⟩ = some (.slice B0 m0 d0) ∧ w.cell? ⟨W.heap.size + 1, 1, none⟩ = some (.slice B1 m1 d1)) ∧ BoxPc W A0 A1 B0 B1 n0 c0 n1 c1 m0 d0 m1 d1 w
section
variable {W w w' : World} {A0 A1 B0 B1 : Option Addr} {n0 c0 n1 c1 m0 d0 m1 d1 : Nat}
theorem BoxPc.grow (h : BoxPc W A0 A1 B0 B1 n0 c0 n1 c1 m0 d0 m1 d1 w) (hb : Below w.heap.size w w') : BoxPc W A0 A1 B0 B1 n0 c0 n1 c1 m0 d0 m1 d1 w' := ⟨h.1.below hb h.1.lt, h.2.1.below hb h.2.1.lt, h.2.2.trans (hb.mono h.2.2.size)⟩
theorem BoxPc.flat (h : BoxPc W A0 A1 B0 B1 n0 c0 n1 c1 m0 d0 m1 d1 w) : FlatPcB W A0 A1 B0 B1 n0 c0 n1 c1 m0 d0 m1 d1 w := ⟨⟨h.1.cell 0, h.1.cell 1, h.2.1.cell 0, h.2.1.cell 1⟩, h⟩
end

theorem samePc_iff (x0 y0 : List Pi) (x1 y1 : List Pe) : ((⟨x0, x1⟩ : Pc) = ⟨y0, y1⟩) ↔ x0 = y0 ∧ x1 = y1 := by simp only [Pc.mk.injEq]

set_option maxHeartbeats 4000000 in
set_option maxRecDepth 100000 in
theorem spec_SamePatternCode_any (x y : Pc) (l l' : PcLay) (W : World) (hx : PcV W W.heap.size x l) (hy : PcV W W.heap.size y l') :
    Calls Try.prog 8 #[x.ag l, y.ag l'] W fun e w' => e = .returned (.bool (tt (x = y))) ∧ Below W.heap.size W w' := by
  obtain ⟨x0, x1⟩ := x
  obtain ⟨y0, y1⟩ := y
  obtain ⟨A0, n0, c0, h0, A1, n1, c1, h1⟩ := l
  obtain ⟨B0, m0, d0, j0, B1, m1, d1, j1⟩ := l'
  unfold PcV at hx hy
  dsimp only at hx hy ⊢
  obtain ⟨X0, X1⟩ := hx
  obtain ⟨Y0, Y1⟩ := hy
  have hn0 := X0.2.1
  have hm0 := Y0.2.1
  have hn1 := X1.2.1
  have hm1 := Y1.2.1
  unfold maxLen at hn0 hm0 hn1 hm1
  have HX0 := Lib.hid X0
  have HX1 := Lib.hid X1
  have HY0 := Lib.hid Y0
  have HY1 := Lib.hid Y1
  clear X0 X1 Y0 Y1
  have HC := Lib.hid (two_new W 31 #[.slice A0 n0 c0, .slice A1 n1 c1] #[.slice B0 m0 d0, .slice B1 m1 d1])
  obtain ⟨P, hP⟩ : ∃ P, tt ((⟨x0, x1⟩ : Pc) = ⟨y0, y1⟩) = P := ⟨_, rfl⟩
  rw [hP]
  have HP : Hid (tt (x0 = y0 ∧ x1 = y1) = P) := by show _ = _; rw [← hP]; exact tt_congr (samePc_iff x0 y0 x1 y1).symm
  clear hP
  show Calls Try.prog 8 #[.agg #[.slice A0 n0 c0, .slice A1 n1 c1], .agg #[.slice B0 m0 d0, .slice B1 m1 d1]] W _
  clear h0 h1 j0 j1

  by_cases hl0 : n0 = m0
  · subst hl0
    by_cases hl1 : n1 = m1
    · subst hl1
      go_enter Try.func8, Try.ntmps8
      go_wp2_with fail
      have HB0 : Hid (BoxPc W A0 A1 B0 B1 n0 c0 n1 c1 n0 d0 n1 d1 ((W.alloc (.cells #[.slice A0 n0 c0, .slice A1 n1 c1] 31)).alloc (.cells #[.slice B0 n0 d0, .slice B1 n1 d1] 31))) := by
        obtain ⟨g0, g1, g2, _⟩ := HC.out _ rfl
        exact ⟨g0, g1, g2⟩
      go_loopw [5] (fun i wr => ∃ k : Nat, k ≤ n0 ∧ i = .int .i64 k ∧ FlatPcB W A0 A1 B0 B1 n0 c0 n1 c1 n0 d0 n1 d1 wr ∧ Hid (BoxPc W A0 A1 B0 B1 n0 c0 n1 c1 n0 d0 n1 d1 wr) ∧ Hid (∀ (j : Nat), j < k → x0[j]? = y0[j]?)) (fun i _ => n0 - (intOf i).toNat)
      case atStart => exact ⟨0, Nat.zero_le _, rfl, HB0.out.flat, HB0, Lib.hid (fun j hj => absurd hj (by omega))⟩
      case round =>
        obtain ⟨k, hk, rfl, ⟨⟨r0, r1, r2, r3⟩, _⟩, HW, HV⟩ := hrel
        by_cases hlt : k < n0
        · have b0 : (0 : Int) ≤ (k : Int) := by omega
          have b1 : (k : Int) < (n0 : Int) := by omega
          obtain ⟨b, off, x, rfl, hg, hx, h1, _⟩ := HX0.out.at_ hlt
          obtain ⟨b', off', y, rfl, hg', hy, h2, _⟩ := HY0.out.at_ hlt
          obtain ⟨p0, p1, p2⟩ := h1.below HW.out.2.2 hg
          obtain ⟨q0, q1, q2⟩ := h2.below HW.out.2.2 hg'
          have HX := Lib.hid hx
          have HY := Lib.hid hy
          obtain ⟨u0, u1, u2⟩ := x
          obtain ⟨v0, v1, v2⟩ := y
          dsimp only at p0 p1 p2 q0 q1 q2
          have HS := Lib.hid (samePi_iff ⟨u0, u1, u2⟩ ⟨v0, v1, v2⟩)
          have HG : Hid (b < wr.heap.size) := Nat.lt_of_lt_of_le hg HW.out.2.2.size
          have HG' : Hid (b' < wr.heap.size) := Nat.lt_of_lt_of_le hg' HW.out.2.2.size
          clear hx hy h1 h2 hg hg'
          have HF : Hid (samePi u0 u1 u2 v0 v1 v2 = false → P = false) := by
            show _ → _
            intro h
            rw [← HP.out]
            refine tt_false fun e => ?_
            have e2 : some (⟨u0, u1, u2⟩ : Pi) = some ⟨v0, v1, v2⟩ := by rw [← HX.out, ← HY.out, e.1]
            rw [HS.out.2 (Option.some.inj e2)] at h
            cases h
          have HT : Hid (samePi u0 u1 u2 v0 v1 v2 = true → ∀ (j : Nat), j < k + 1 → x0[j]? = y0[j]?) := by
            show _ → _
            intro h j hj
            by_cases e : j = k
            · rw [e, HX.out, HY.out, HS.out.1 h]
            · exact HV.out j (by omega)
          unfold samePi at HF HT
          clear HS HX HY
          obtain ⟨z0, h0⟩ : ∃ z, (u0 == v0) = z := ⟨_, rfl⟩
          obtain ⟨z1, h1⟩ : ∃ z, (u1 == v1) = z := ⟨_, rfl⟩
          obtain ⟨z2, h2⟩ : ∃ z, (u2.toList == v2.toList) = z := ⟨_, rfl⟩
          rw [h0, h1, h2] at HF HT
          cases z0
          · have HF1 := Lib.hid (HF.out (by simp))
            clear HF HT
            go_wp2_with fail
            go_region_held3 (fun w' => FlatPcB W (some ⟨b, off, none⟩) A1 (some ⟨b', off', none⟩) B1 n0 c0 n1 c1 n0 d0 n1 d1 w' ∧ (TwoPi w' b b' (off + k * 3) (off' + k * 3) u0 u1 u2 v0 v1 v2 ∧ Below wr.heap.size wr w'))
              (first | (exact ⟨(HW.out.grow (Below.refl _ _).drew).flat, ⟨⟨p0, p1, p2⟩, ⟨q0, q1, q2⟩⟩, (Below.refl _ _).drew⟩) | (go_split_ands; exact ⟨(BoxPc.grow (by assumption) hb).flat, twoPi_keep HG.out HG'.out ⟨⟨⟨by assumption, by assumption, by assumption⟩, ⟨by assumption, by assumption, by assumption⟩⟩, by assumption⟩ hb⟩) | go_keep)
              (fail)
            go_wp2_with fail
            go_split_ands
            go_ret
            exact ⟨by rw [HF1.out]; rfl, HW.out.2.2.trans (Below.mono (by assumption) HW.out.2.2.size)⟩
          cases z1
          · have HF1 := Lib.hid (HF.out (by simp))
            clear HF HT
            go_wp2_with fail
            go_region_held3 (fun w' => FlatPcB W (some ⟨b, off, none⟩) A1 (some ⟨b', off', none⟩) B1 n0 c0 n1 c1 n0 d0 n1 d1 w' ∧ (TwoPi w' b b' (off + k * 3) (off' + k * 3) u0 u1 u2 v0 v1 v2 ∧ Below wr.heap.size wr w'))
              (first | (exact ⟨(HW.out.grow (Below.refl _ _).drew).flat, ⟨⟨p0, p1, p2⟩, ⟨q0, q1, q2⟩⟩, (Below.refl _ _).drew⟩) | (go_split_ands; exact ⟨(BoxPc.grow (by assumption) hb).flat, twoPi_keep HG.out HG'.out ⟨⟨⟨by assumption, by assumption, by assumption⟩, ⟨by assumption, by assumption, by assumption⟩⟩, by assumption⟩ hb⟩) | go_keep)
              (fail)
            go_wp2_with fail
            go_split_ands
            go_ret
            exact ⟨by rw [HF1.out]; rfl, HW.out.2.2.trans (Below.mono (by assumption) HW.out.2.2.size)⟩
          cases z2
          · have HF1 := Lib.hid (HF.out (by simp))
            clear HF HT
            go_wp2_with fail
            go_region_held3 (fun w' => FlatPcB W (some ⟨b, off, none⟩) A1 (some ⟨b', off', none⟩) B1 n0 c0 n1 c1 n0 d0 n1 d1 w' ∧ (TwoPi w' b b' (off + k * 3) (off' + k * 3) u0 u1 u2 v0 v1 v2 ∧ Below wr.heap.size wr w'))
              (first | (exact ⟨(HW.out.grow (Below.refl _ _).drew).flat, ⟨⟨p0, p1, p2⟩, ⟨q0, q1, q2⟩⟩, (Below.refl _ _).drew⟩) | (go_split_ands; exact ⟨(BoxPc.grow (by assumption) hb).flat, twoPi_keep HG.out HG'.out ⟨⟨⟨by assumption, by assumption, by assumption⟩, ⟨by assumption, by assumption, by assumption⟩⟩, by assumption⟩ hb⟩) | go_keep)
              (fail)
            go_wp2_with fail
            go_split_ands
            go_ret
            exact ⟨by rw [HF1.out]; rfl, HW.out.2.2.trans (Below.mono (by assumption) HW.out.2.2.size)⟩
          have HT1 := Lib.hid (HT.out (by simp))
          clear HF HT
          go_wp2_with fail
          go_region_held3 (fun w' => FlatPcB W (some ⟨b, off, none⟩) A1 (some ⟨b', off', none⟩) B1 n0 c0 n1 c1 n0 d0 n1 d1 w' ∧ (TwoPi w' b b' (off + k * 3) (off' + k * 3) u0 u1 u2 v0 v1 v2 ∧ Below wr.heap.size wr w'))
            (first | (exact ⟨(HW.out.grow (Below.refl _ _).drew).flat, ⟨⟨p0, p1, p2⟩, ⟨q0, q1, q2⟩⟩, (Below.refl _ _).drew⟩) | (go_split_ands; exact ⟨(BoxPc.grow (by assumption) hb).flat, twoPi_keep HG.out HG'.out ⟨⟨⟨by assumption, by assumption, by assumption⟩, ⟨by assumption, by assumption, by assumption⟩⟩, by assumption⟩ hb⟩) | go_keep)
            (fail)
          go_wp2_with fail
          go_split_ands
          have HN := Lib.hid (show BoxPc W (some ⟨b, off, none⟩) A1 (some ⟨b', off', none⟩) B1 n0 c0 n1 c1 n0 d0 n1 d1 _ by assumption)
          go_roundw
          case rel => exact ⟨k + 1, by omega, by go_num, HN.out.flat, HN, HT1⟩
          case measure => simp [intOf]; omega
        · have HE0 : Hid (x0 = y0) := by
            show _ = _
            refine List.ext_getElem? fun j => ?_
            by_cases e : j < n0
            · exact HV.out j (by omega)
            · rw [List.getElem?_eq_none (by have := HX0.out.1; omega), List.getElem?_eq_none (by have := HY0.out.1; omega)]
          go_wp2_with fail
          have HB1 := Lib.hid HW.out
          clear HW HV HB0 r0 r1 r2 r3 hlt hk
          go_loopw [6] (fun i wr => ∃ k : Nat, k ≤ n1 ∧ i = .int .i64 k ∧ FlatPcB W A0 A1 B0 B1 n0 c0 n1 c1 n0 d0 n1 d1 wr ∧ Hid (BoxPc W A0 A1 B0 B1 n0 c0 n1 c1 n0 d0 n1 d1 wr) ∧ Hid (∀ (j : Nat), j < k → x1[j]? = y1[j]?)) (fun i _ => n1 - (intOf i).toNat)
          case atStart => exact ⟨0, Nat.zero_le _, rfl, HB1.out.flat, HB1, Lib.hid (fun j hj => absurd hj (by omega))⟩
          case round =>
            obtain ⟨k, hk, rfl, ⟨⟨r0, r1, r2, r3⟩, _⟩, HW, HV⟩ := hrel
            by_cases hlt : k < n1
            · have b0 : (0 : Int) ≤ (k : Int) := by omega
              have b1 : (k : Int) < (n1 : Int) := by omega
              obtain ⟨b, off, x, rfl, hg, hx, h1, _⟩ := HX1.out.at_ hlt
              obtain ⟨b', off', y, rfl, hg', hy, h2, _⟩ := HY1.out.at_ hlt
              obtain ⟨p0, p1⟩ := h1.below HW.out.2.2 hg
              obtain ⟨q0, q1⟩ := h2.below HW.out.2.2 hg'
              have HX := Lib.hid hx
              have HY := Lib.hid hy
              obtain ⟨u0, u1⟩ := x
              obtain ⟨v0, v1⟩ := y
              dsimp only at p0 p1 q0 q1
              have HS := Lib.hid (samePe_iff ⟨u0, u1⟩ ⟨v0, v1⟩)
              have HG : Hid (b < wr.heap.size) := Nat.lt_of_lt_of_le hg HW.out.2.2.size
              have HG' : Hid (b' < wr.heap.size) := Nat.lt_of_lt_of_le hg' HW.out.2.2.size
              clear hx hy h1 h2 hg hg'
              have HF : Hid (samePe u0 u1 v0 v1 = false → P = false) := by
                show _ → _
                intro h
                rw [← HP.out]
                refine tt_false fun e => ?_
                have e2 : some (⟨u0, u1⟩ : Pe) = some ⟨v0, v1⟩ := by rw [← HX.out, ← HY.out, e.2]
                rw [HS.out.2 (Option.some.inj e2)] at h
                cases h
              have HT : Hid (samePe u0 u1 v0 v1 = true → ∀ (j : Nat), j < k + 1 → x1[j]? = y1[j]?) := by
                show _ → _
                intro h j hj
                by_cases e : j = k
                · rw [e, HX.out, HY.out, HS.out.1 h]
                · exact HV.out j (by omega)
              unfold samePe at HF HT
              clear HS HX HY
              obtain ⟨z0, h0⟩ : ∃ z, (u0.toList == v0.toList) = z := ⟨_, rfl⟩
              obtain ⟨z1, h1⟩ : ∃ z, (u1 == v1) = z := ⟨_, rfl⟩
              rw [h0, h1] at HF HT
              cases z0
              · have HF1 := Lib.hid (HF.out (by simp))
                clear HF HT
                go_wp2_with fail
                go_region_held3 (fun w' => FlatPcB W A0 (some ⟨b, off, none⟩) B0 (some ⟨b', off', none⟩) n0 c0 n1 c1 n0 d0 n1 d1 w' ∧ (TwoPe w' b b' (off + k * 2) (off' + k * 2) u0 u1 v0 v1 ∧ Below wr.heap.size wr w'))
                  (first | (exact ⟨(HW.out.grow (Below.refl _ _).drew).flat, ⟨⟨p0, p1⟩, ⟨q0, q1⟩⟩, (Below.refl _ _).drew⟩) | (go_split_ands; exact ⟨(BoxPc.grow (by assumption) hb).flat, twoPe_keep HG.out HG'.out ⟨⟨⟨by assumption, by assumption⟩, ⟨by assumption, by assumption⟩⟩, by assumption⟩ hb⟩) | go_keep)
                  (fail)
                go_wp2_with fail
                go_split_ands
                go_ret
                exact ⟨by rw [HF1.out]; rfl, HW.out.2.2.trans (Below.mono (by assumption) HW.out.2.2.size)⟩
              cases z1
              · have HF1 := Lib.hid (HF.out (by simp))
                clear HF HT
                go_wp2_with fail
                go_region_held3 (fun w' => FlatPcB W A0 (some ⟨b, off, none⟩) B0 (some ⟨b', off', none⟩) n0 c0 n1 c1 n0 d0 n1 d1 w' ∧ (TwoPe w' b b' (off + k * 2) (off' + k * 2) u0 u1 v0 v1 ∧ Below wr.heap.size wr w'))
                  (first | (exact ⟨(HW.out.grow (Below.refl _ _).drew).flat, ⟨⟨p0, p1⟩, ⟨q0, q1⟩⟩, (Below.refl _ _).drew⟩) | (go_split_ands; exact ⟨(BoxPc.grow (by assumption) hb).flat, twoPe_keep HG.out HG'.out ⟨⟨⟨by assumption, by assumption⟩, ⟨by assumption, by assumption⟩⟩, by assumption⟩ hb⟩) | go_keep)
                  (fail)
                go_wp2_with fail
                go_split_ands
                go_ret
                exact ⟨by rw [HF1.out]; rfl, HW.out.2.2.trans (Below.mono (by assumption) HW.out.2.2.size)⟩
              have HT1 := Lib.hid (HT.out (by simp))
              clear HF HT
              go_wp2_with fail
              go_region_held3 (fun w' => FlatPcB W A0 (some ⟨b, off, none⟩) B0 (some ⟨b', off', none⟩) n0 c0 n1 c1 n0 d0 n1 d1 w' ∧ (TwoPe w' b b' (off + k * 2) (off' + k * 2) u0 u1 v0 v1 ∧ Below wr.heap.size wr w'))
                (first | (exact ⟨(HW.out.grow (Below.refl _ _).drew).flat, ⟨⟨p0, p1⟩, ⟨q0, q1⟩⟩, (Below.refl _ _).drew⟩) | (go_split_ands; exact ⟨(BoxPc.grow (by assumption) hb).flat, twoPe_keep HG.out HG'.out ⟨⟨⟨by assumption, by assumption⟩, ⟨by assumption, by assumption⟩⟩, by assumption⟩ hb⟩) | go_keep)
                (fail)
              go_wp2_with fail
              go_split_ands
              have HN := Lib.hid (show BoxPc W A0 (some ⟨b, off, none⟩) B0 (some ⟨b', off', none⟩) n0 c0 n1 c1 n0 d0 n1 d1 _ by assumption)
              go_roundw
              case rel => exact ⟨k + 1, by omega, by go_num, HN.out.flat, HN, HT1⟩
              case measure => simp [intOf]; omega
            · have HE1 : Hid (x1 = y1) := by
                show _ = _
                refine List.ext_getElem? fun j => ?_
                by_cases e : j < n1
                · exact HV.out j (by omega)
                · rw [List.getElem?_eq_none (by have := HX1.out.1; omega), List.getElem?_eq_none (by have := HY1.out.1; omega)]
              go_wp2_with fail
              go_ret
              exact ⟨by rw [← HP.out, tt_true ⟨HE0.out, HE1.out⟩]; rfl, HW.out.2.2⟩
    · have hne : ¬ (n1 : Int) = (m1 : Int) := by omega
      have HF : Hid (P = false) := by
        show _ = _
        rw [← HP.out]
        exact tt_false fun e => hl1 (by rw [← HX1.out.1, ← HY1.out.1, e.2])
      go_enter Try.func8, Try.ntmps8
      go_wp2_with fail
      go_ret
      exact ⟨by rw [HF.out]; rfl, (HC.out _ rfl).2.2.1⟩
  · have hne : ¬ (n0 : Int) = (m0 : Int) := by omega
    have HF : Hid (P = false) := by
      show _ = _
      rw [← HP.out]
      exact tt_false fun e => hl0 (by rw [← HX0.out.1, ← HY0.out.1, e.1])
    go_enter Try.func8, Try.ntmps8
    go_wp2_with fail
    go_ret
    exact ⟨by rw [HF.out]; rfl, (HC.out _ rfl).2.2.1⟩

set_option maxHeartbeats 1000000 in
set_option maxRecDepth 100000 in
theorem impl_SamePatternCode_any (x y : Pc) (l l' : PcLay) (W : World) (hx : PcV W W.heap.size x l) (hy : PcV W W.heap.size y l') :
    Calls Try.prog 10 #[x.ag l, y.ag l'] W fun e w' => e = .returned (.bool (tt (x = y))) ∧ Below W.heap.size W w' := by
  obtain ⟨x0, x1⟩ := x
  obtain ⟨y0, y1⟩ := y
  obtain ⟨A0, n0, c0, h0, A1, n1, c1, h1⟩ := l
  obtain ⟨B0, m0, d0, j0, B1, m1, d1, j1⟩ := l'
  unfold PcV at hx hy
  dsimp only at hx hy ⊢
  have HX := Lib.hid hx
  have HY := Lib.hid hy
  clear hx hy
  have HC := Lib.hid (two_new W 31 #[.slice A0 n0 c0, .slice A1 n1 c1] #[.slice B0 m0 d0, .slice B1 m1 d1])
  have hP : tt ((⟨x0, x1⟩ : Pc) = ⟨y0, y1⟩) = (tt (x0 = y0) && tt (x1 = y1)) := by
    rw [Bool.eq_iff_iff, Bool.and_eq_true, tt_iff, tt_iff, tt_iff]
    exact samePc_iff x0 y0 x1 y1
  rw [hP]
  clear hP
  obtain ⟨z0, hz0⟩ : ∃ z, tt (x0 = y0) = z := ⟨_, rfl⟩
  obtain ⟨z1, hz1⟩ : ∃ z, tt (x1 = y1) = z := ⟨_, rfl⟩
  have HZ0 := Lib.hid hz0
  have HZ1 := Lib.hid hz1
  rw [hz0, hz1]
  clear hz0 hz1
  show Calls Try.prog 10 #[.agg #[.slice A0 n0 c0, .slice A1 n1 c1], .agg #[.slice B0 m0 d0, .slice B1 m1 d1]] W _
  cases z0
  · go_enter Try.func10, Try.ntmps10
    go_wp2_with (go_at_call 28; obtain ⟨g0, g1, g2, g3⟩ := HC.out _ rfl; have HQ := equalPi_any A0 B0 n0 m0 c0 d0 x0 y0 _ (HX.out.1.go g2) (HY.out.1.go g2); refine Calls.mono HQ ?_; clear HQ; rintro e w1 ⟨rfl, hb⟩; rw [HZ0.out]; have HB1 := Lib.hid (g2.trans (hb.mono g2.size)); clear g0 g1 g2 g3 hb)
    all_goals go_ret
    all_goals exact ⟨rfl, HB1.out⟩
  cases z1
  all_goals
    go_enter Try.func10, Try.ntmps10
    go_wp2_with (first | (go_at_call 28; obtain ⟨g0, g1, g2, g3⟩ := HC.out _ rfl; have HQ := equalPi_any A0 B0 n0 m0 c0 d0 x0 y0 _ (HX.out.1.go g2) (HY.out.1.go g2); refine Calls.mono HQ ?_; clear HQ; rintro e w1 ⟨rfl, hb⟩; rw [HZ0.out]; have HB1 := Lib.hid (g2.trans (hb.mono g2.size)); have q0 : w1.cell? ⟨W.heap.size, 1, none⟩ = some (.slice A1 n1 c1) := (g0.below hb (by omega)).cell 1; have q1 : w1.cell? ⟨W.heap.size + 1, 1, none⟩ = some (.slice B1 m1 d1) := (g1.below hb (by omega)).cell 1; clear g0 g1 g2 g3 hb) | (go_at_call 29; have HQ := equalPe_any A1 B1 n1 m1 c1 d1 x1 y1 _ (HX.out.2.go HB1.out) (HY.out.2.go HB1.out); refine Calls.mono HQ ?_; clear HQ; rintro e w2 ⟨rfl, hb⟩; rw [HZ1.out]; have HB2 := Lib.hid (HB1.out.trans (hb.mono HB1.out.size)); clear hb HX))
    all_goals go_ret
    all_goals exact ⟨rfl, HB2.out⟩
end Go.Proofs.Ytpmbalodbjfjbaa
