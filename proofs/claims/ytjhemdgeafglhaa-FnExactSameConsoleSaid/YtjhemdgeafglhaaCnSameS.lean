/- Contract: the model's SameConsole. No condition. -/
import Derived.Test.YtjhemdgeafglhaaCnsEq
import Derived.Test.YtjhemdgeafglhaaFlSameS
import Derived.Lib.QuietBelow
import Derived.BigQuiet
namespace Go.Proofs.Ytjhemdgeafglhaa
open Go Go.RowKit Go.Sort

/-- Both boxes. -/
def BoxC (W : World) (X Y : Array Value) (w : World) : Prop := RW 30 w W.heap.size X ∧ RW 30 w (W.heap.size + 1) Y ∧ Below W.heap.size W w
theorem BoxC.grow {W w w' : World} {X Y : Array Value} (h : BoxC W X Y w) (hb : Below w.heap.size w w') : BoxC W X Y w' :=
  ⟨h.1.below hb h.1.lt, h.2.1.below hb h.2.1.lt, h.2.2.trans (hb.mono h.2.2.size)⟩
abbrev FlatBC (W : World) (A3 A4 A3' A4' : Option Addr) (n3 c3 n4 c4 c3' n4' c4' : Nat) (w : World) : Prop :=
  w.cell? ⟨W.heap.size, 3, none⟩ = some (.slice A3 n3 c3) ∧ w.cell? ⟨W.heap.size, 4, none⟩ = some (.slice A4 n4 c4) ∧ w.cell? ⟨W.heap.size + 1, 3, none⟩ = some (.slice A3' n3 c3') ∧ w.cell? ⟨W.heap.size + 1, 4, none⟩ = some (.slice A4' n4' c4')
theorem BoxC.flat {W w : World} {A3 A4 A3' A4' : Option Addr} {n3 c3 n4 c4 c3' n4' c4' : Nat} {v0 v1 v2 u0 u1 u2 : Value} (h : BoxC W #[v0, v1, v2, .slice A3 n3 c3, .slice A4 n4 c4] #[u0, u1, u2, .slice A3' n3 c3', .slice A4' n4' c4'] w) : FlatBC W A3 A4 A3' A4' n3 c3 n4 c4 c3' n4' c4' w :=
  ⟨h.1.cell 3, h.1.cell 4, h.2.1.cell 3, h.2.1.cell 4⟩

set_option maxHeartbeats 8000000 in
set_option maxRecDepth 100000 in
theorem spec_SameConsole_any (x y : Cn) (l l' : CnLay) (W : World) (hx : CnV W W.heap.size x l) (hy : CnV W W.heap.size y l') :
    Calls Try.prog 6 #[x.ag l, y.ag l'] W fun e w' => e = .returned (.bool (tt (x = y))) ∧ Below W.heap.size W w' := by
  obtain ⟨x0, x1, x2, x3, x4⟩ := x
  obtain ⟨y0, y1, y2, y3, y4⟩ := y
  obtain ⟨A0, n0, c0, h0, A2, n2, c2, h2, A3, n3, c3, h3, A4, n4, c4, h4⟩ := l
  obtain ⟨A0', n0', c0', h0', A2', n2', c2', h2', A3', n3', c3', h3', A4', n4', c4', h4'⟩ := l'
  obtain ⟨k0, k2, k3, k4⟩ := hx
  obtain ⟨j0, j2, j3, j4⟩ := hy
  dsimp only at k0 k2 k3 k4 j0 j2 j3 j4
  have hn3 := k3.2.1
  have hn3' := j3.2.1
  unfold maxLen at hn3 hn3'
  have HK0 := Lib.hid k0
  have HK2 := Lib.hid k2
  have HK3 := Lib.hid k3
  have HK4 := Lib.hid k4
  have HJ0 := Lib.hid j0
  have HJ2 := Lib.hid j2
  have HJ3 := Lib.hid j3
  have HJ4 := Lib.hid j4
  clear k0 k2 k3 k4 j0 j2 j3 j4
  obtain ⟨P, hP⟩ : ∃ P, tt ((⟨x0, x1, x2, x3, x4⟩ : Cn) = ⟨y0, y1, y2, y3, y4⟩) = P := ⟨_, rfl⟩
  have HP := Lib.hid hP
  rw [hP]
  clear hP
  have HNE : Hid ((x0 ≠ y0 ∨ x1 ≠ y1 ∨ x2 ≠ y2 ∨ x3 ≠ y3 ∨ x4 ≠ y4) → P = false) := by
    show _ → _
    intro h
    rw [← HP.out]
    refine tt_false fun e => ?_
    simp only [Cn.mk.injEq] at e
    rcases h with h | h | h | h | h
    · exact h e.1
    · exact h e.2.1
    · exact h e.2.2.1
    · exact h e.2.2.2.1
    · exact h e.2.2.2.2
  have HEQ : Hid (x0 = y0 → x1 = y1 → x2 = y2 → x3 = y3 → tt (x4 = y4) = P) := by
    show _ → _ → _ → _ → _
    intro e0 e1 e2 e3
    rw [← HP.out]
    exact tt_congr ⟨fun e => by rw [e0, e1, e2, e3, e], fun e => by simp only [Cn.mk.injEq] at e; exact e.2.2.2.2⟩
  clear HP
  have HC := Lib.hid (two_new W 30 #[.slice A0 n0 c0, .int .i64 x1, .slice A2 n2 c2, .slice A3 n3 c3, .slice A4 n4 c4] #[.slice A0' n0' c0', .int .i64 y1, .slice A2' n2' c2', .slice A3' n3' c3', .slice A4' n4' c4'])
  obtain ⟨z0, hz0⟩ : ∃ z, tt (x0 = y0) = z := ⟨_, rfl⟩
  have HZ0 := Lib.hid hz0
  obtain ⟨z2, hz2⟩ : ∃ z, tt (x2 = y2) = z := ⟨_, rfl⟩
  have HZ2 := Lib.hid hz2
  obtain ⟨z4, hz4⟩ : ∃ z, tt (x4 = y4) = z := ⟨_, rfl⟩
  have HZ4 := Lib.hid hz4
  clear hz0 hz2 hz4
  show Calls Try.prog 6 #[.agg #[.slice A0 n0 c0, .int .i64 x1, .slice A2 n2 c2, .slice A3 n3 c3, .slice A4 n4 c4], .agg #[.slice A0' n0' c0', .int .i64 y1, .slice A2' n2' c2', .slice A3' n3' c3', .slice A4' n4' c4']] W _

  cases z0
  · have HF : Hid (P = false) := HNE.out (.inl (of_tt_false HZ0.out))
    go_enter Try.func6, Try.ntmps6
    have tk1 : True := trivial
    go_wp2_with (go_at_call 17; have tk := tk1; obtain ⟨g0, g1, g2, g3⟩ := HC.out _ rfl; have HQ := l21SameTexts_any A0 A0' n0 n0' c0 c0' x0 y0 _ (HK0.out.go g2) (HJ0.out.go g2); refine Calls.mono HQ ?_; clear HQ; rintro e w1 ⟨rfl, hb⟩; rw [HZ0.out]; have HX1 : Hid (BoxC W #[.slice A0 n0 c0, .int .i64 x1, .slice A2 n2 c2, .slice A3 n3 c3, .slice A4 n4 c4] #[.slice A0' n0' c0', .int .i64 y1, .slice A2' n2' c2', .slice A3' n3' c3', .slice A4' n4' c4'] w1) := ⟨g0.below hb (by omega), g1.below hb (by omega), g2.trans (hb.mono g2.size)⟩; clear g0 g1 g2 g3 hb HC tk tk1)
    go_ret
    exact ⟨by rw [HF.out]; rfl, HX1.out.2.2⟩
  have HE0 := Lib.hid (of_tt HZ0.out)
  by_cases he1 : x1 = y1
  case neg =>
    have HF : Hid (P = false) := HNE.out (.inr (.inl he1))
    go_enter Try.func6, Try.ntmps6
    have tk1 : True := trivial
    go_wp2_with (go_at_call 17; have tk := tk1; obtain ⟨g0, g1, g2, g3⟩ := HC.out _ rfl; have HQ := l21SameTexts_any A0 A0' n0 n0' c0 c0' x0 y0 _ (HK0.out.go g2) (HJ0.out.go g2); refine Calls.mono HQ ?_; clear HQ; rintro e w1 ⟨rfl, hb⟩; rw [HZ0.out]; have HX1 : Hid (BoxC W #[.slice A0 n0 c0, .int .i64 x1, .slice A2 n2 c2, .slice A3 n3 c3, .slice A4 n4 c4] #[.slice A0' n0' c0', .int .i64 y1, .slice A2' n2' c2', .slice A3' n3' c3', .slice A4' n4' c4'] w1) := ⟨g0.below hb (by omega), g1.below hb (by omega), g2.trans (hb.mono g2.size)⟩; have r1 : w1.cell? ⟨W.heap.size, 1, none⟩ = some (.int .i64 x1) := HX1.out.1.cell 1; have r2 : w1.cell? ⟨W.heap.size, 2, none⟩ = some (.slice A2 n2 c2) := HX1.out.1.cell 2; have s1 : w1.cell? ⟨W.heap.size + 1, 1, none⟩ = some (.int .i64 y1) := HX1.out.2.1.cell 1; have s2 : w1.cell? ⟨W.heap.size + 1, 2, none⟩ = some (.slice A2' n2' c2') := HX1.out.2.1.cell 2; clear g0 g1 g2 g3 hb HC tk tk1)
    go_ret
    exact ⟨by rw [HF.out]; rfl, HX1.out.2.2⟩
  subst he1
  cases z2
  · have HF : Hid (P = false) := HNE.out (.inr (.inr (.inl (of_tt_false HZ2.out))))
    go_enter Try.func6, Try.ntmps6
    have tk1 : True := trivial
    go_wp2_with (go_at_call 17; have tk := tk1; obtain ⟨g0, g1, g2, g3⟩ := HC.out _ rfl; have HQ := l21SameTexts_any A0 A0' n0 n0' c0 c0' x0 y0 _ (HK0.out.go g2) (HJ0.out.go g2); refine Calls.mono HQ ?_; clear HQ; rintro e w1 ⟨rfl, hb⟩; rw [HZ0.out]; have HX1 : Hid (BoxC W #[.slice A0 n0 c0, .int .i64 x1, .slice A2 n2 c2, .slice A3 n3 c3, .slice A4 n4 c4] #[.slice A0' n0' c0', .int .i64 x1, .slice A2' n2' c2', .slice A3' n3' c3', .slice A4' n4' c4'] w1) := ⟨g0.below hb (by omega), g1.below hb (by omega), g2.trans (hb.mono g2.size)⟩; have r1 : w1.cell? ⟨W.heap.size, 1, none⟩ = some (.int .i64 x1) := HX1.out.1.cell 1; have r2 : w1.cell? ⟨W.heap.size, 2, none⟩ = some (.slice A2 n2 c2) := HX1.out.1.cell 2; have s1 : w1.cell? ⟨W.heap.size + 1, 1, none⟩ = some (.int .i64 x1) := HX1.out.2.1.cell 1; have s2 : w1.cell? ⟨W.heap.size + 1, 2, none⟩ = some (.slice A2' n2' c2') := HX1.out.2.1.cell 2; clear g0 g1 g2 g3 hb HC tk tk1)
    have tk2 : True := trivial
    go_wp2_with (go_at_call 17; have tk := tk2; have HQ := l21SameTexts_any A2 A2' n2 n2' c2 c2' x2 y2 _ (HK2.out.go HX1.out.2.2) (HJ2.out.go HX1.out.2.2); refine Calls.mono HQ ?_; clear HQ; rintro e w2 ⟨rfl, hb⟩; rw [HZ2.out]; have HX2 := Lib.hid (HX1.out.grow hb); clear hb tk tk2 r1 r2 s1 s2 HX1)
    go_ret
    exact ⟨by rw [HF.out]; rfl, HX2.out.2.2⟩
  have HE2 := Lib.hid (of_tt HZ2.out)
  by_cases hl3 : n3 = n3'
  case neg =>
    have HF : Hid (P = false) := HNE.out (.inr (.inr (.inr (.inl fun e => hl3 (by rw [← HK3.out.1, ← HJ3.out.1, e])))))
    have hne : ¬ (n3 : Int) = (n3' : Int) := by omega
    go_enter Try.func6, Try.ntmps6
    have tk1 : True := trivial
    go_wp2_with (go_at_call 17; have tk := tk1; obtain ⟨g0, g1, g2, g3⟩ := HC.out _ rfl; have HQ := l21SameTexts_any A0 A0' n0 n0' c0 c0' x0 y0 _ (HK0.out.go g2) (HJ0.out.go g2); refine Calls.mono HQ ?_; clear HQ; rintro e w1 ⟨rfl, hb⟩; rw [HZ0.out]; have HX1 : Hid (BoxC W #[.slice A0 n0 c0, .int .i64 x1, .slice A2 n2 c2, .slice A3 n3 c3, .slice A4 n4 c4] #[.slice A0' n0' c0', .int .i64 x1, .slice A2' n2' c2', .slice A3' n3' c3', .slice A4' n4' c4'] w1) := ⟨g0.below hb (by omega), g1.below hb (by omega), g2.trans (hb.mono g2.size)⟩; have r1 : w1.cell? ⟨W.heap.size, 1, none⟩ = some (.int .i64 x1) := HX1.out.1.cell 1; have r2 : w1.cell? ⟨W.heap.size, 2, none⟩ = some (.slice A2 n2 c2) := HX1.out.1.cell 2; have s1 : w1.cell? ⟨W.heap.size + 1, 1, none⟩ = some (.int .i64 x1) := HX1.out.2.1.cell 1; have s2 : w1.cell? ⟨W.heap.size + 1, 2, none⟩ = some (.slice A2' n2' c2') := HX1.out.2.1.cell 2; clear g0 g1 g2 g3 hb HC tk tk1)
    have tk2 : True := trivial
    go_wp2_with (go_at_call 17; have tk := tk2; have HQ := l21SameTexts_any A2 A2' n2 n2' c2 c2' x2 y2 _ (HK2.out.go HX1.out.2.2) (HJ2.out.go HX1.out.2.2); refine Calls.mono HQ ?_; clear HQ; rintro e w2 ⟨rfl, hb⟩; rw [HZ2.out]; have HX2 := Lib.hid (HX1.out.grow hb); have r3 : w2.cell? ⟨W.heap.size, 3, none⟩ = some (.slice A3 n3 c3) := HX2.out.1.cell 3; have s3 : w2.cell? ⟨W.heap.size + 1, 3, none⟩ = some (.slice A3' n3' c3') := HX2.out.2.1.cell 3; clear hb tk tk2 r1 r2 s1 s2 HX1)
    go_ret
    exact ⟨by rw [HF.out]; rfl, HX2.out.2.2⟩
  subst hl3
  go_enter Try.func6, Try.ntmps6
  have tk1 : True := trivial
  go_wp2_with (go_at_call 17; have tk := tk1; obtain ⟨g0, g1, g2, g3⟩ := HC.out _ rfl; have HQ := l21SameTexts_any A0 A0' n0 n0' c0 c0' x0 y0 _ (HK0.out.go g2) (HJ0.out.go g2); refine Calls.mono HQ ?_; clear HQ; rintro e w1 ⟨rfl, hb⟩; rw [HZ0.out]; have HX1 : Hid (BoxC W #[.slice A0 n0 c0, .int .i64 x1, .slice A2 n2 c2, .slice A3 n3 c3, .slice A4 n4 c4] #[.slice A0' n0' c0', .int .i64 x1, .slice A2' n2' c2', .slice A3' n3 c3', .slice A4' n4' c4'] w1) := ⟨g0.below hb (by omega), g1.below hb (by omega), g2.trans (hb.mono g2.size)⟩; have r1 : w1.cell? ⟨W.heap.size, 1, none⟩ = some (.int .i64 x1) := HX1.out.1.cell 1; have r2 : w1.cell? ⟨W.heap.size, 2, none⟩ = some (.slice A2 n2 c2) := HX1.out.1.cell 2; have s1 : w1.cell? ⟨W.heap.size + 1, 1, none⟩ = some (.int .i64 x1) := HX1.out.2.1.cell 1; have s2 : w1.cell? ⟨W.heap.size + 1, 2, none⟩ = some (.slice A2' n2' c2') := HX1.out.2.1.cell 2; clear g0 g1 g2 g3 hb HC tk tk1)
  have tk2 : True := trivial
  go_wp2_with (go_at_call 17; have tk := tk2; have HQ := l21SameTexts_any A2 A2' n2 n2' c2 c2' x2 y2 _ (HK2.out.go HX1.out.2.2) (HJ2.out.go HX1.out.2.2); refine Calls.mono HQ ?_; clear HQ; rintro e w2 ⟨rfl, hb⟩; rw [HZ2.out]; have HX2 := Lib.hid (HX1.out.grow hb); have r3 : w2.cell? ⟨W.heap.size, 3, none⟩ = some (.slice A3 n3 c3) := HX2.out.1.cell 3; have s3 : w2.cell? ⟨W.heap.size + 1, 3, none⟩ = some (.slice A3' n3 c3') := HX2.out.2.1.cell 3; clear hb tk tk2 r1 r2 s1 s2 HX1)

  have HF2 := Lib.hid HX2.out.flat
  obtain ⟨r0, r1, r2, r3⟩ := HX2.out.flat
  go_loopw [5] (fun i wr => ∃ k : Nat, k ≤ n3 ∧ i = .int .i64 k ∧ FlatBC W A3 A4 A3' A4' n3 c3 n4 c4 c3' n4' c4' wr ∧ Hid (BoxC W #[.slice A0 n0 c0, .int .i64 x1, .slice A2 n2 c2, .slice A3 n3 c3, .slice A4 n4 c4] #[.slice A0' n0' c0', .int .i64 x1, .slice A2' n2' c2', .slice A3' n3 c3', .slice A4' n4' c4'] wr) ∧ Hid (∀ (j : Nat), j < k → x3[j]? = y3[j]?)) (fun i _ => n3 - (intOf i).toNat)
  case atStart => exact ⟨0, Nat.zero_le _, rfl, HF2.out, HX2, Lib.hid (fun j hj => absurd hj (by omega))⟩
  case round =>
    obtain ⟨k, hk, rfl, ⟨r0, r1, r2, r3⟩, HX, HV⟩ := hrel
    by_cases hlt : k < n3
    · have b0 : (0 : Int) ≤ (k : Int) := by omega
      have b1 : (k : Int) < (n3 : Int) := by omega
      obtain ⟨b, off, u, m, rfl, hg, hu, hh1, hv1⟩ := (HK3.out.go HX.out.2.2).at_ hlt
      obtain ⟨b', off', v, m', rfl, hg', hv, hh2, hv2⟩ := (HJ3.out.go HX.out.2.2).at_ hlt
      have HU := Lib.hid hu
      have HW := Lib.hid hv
      have HX1 := Lib.hid hv1
      have HY1 := Lib.hid hv2
      obtain ⟨z, hz⟩ : ∃ z, tt (u = v) = z := ⟨_, rfl⟩
      have HZ := Lib.hid hz
      have HF : Hid (z = false → P = false) := by
        show _ → _
        intro h
        refine HNE.out (.inr (.inr (.inr (.inl fun e => ?_))))
        have e2 : some u = some v := by rw [← HU.out, ← HW.out, e]
        rw [h, Option.some.inj e2] at HZ
        have := HZ.out
        rw [tt_true rfl] at this
        cases this
      have HT : Hid (z = true → ∀ (j : Nat), j < k + 1 → x3[j]? = y3[j]?) := by
        show _ → _
        intro h j hj
        by_cases e : j = k
        · rw [h] at HZ
          rw [e, HU.out, HW.out, of_tt HZ.out]
        · exact HV.out j (by omega)
      have HCW := Lib.hid (fun (d : Nat) (os : Array Obj) => Calls.regrown_of (by have h := l21SameFile_any u v m m' (grow (redrawn wr d) os) (HX1.out.go (below_regrown wr d os)) (HY1.out.go (below_regrown wr d os)); rw [HZ.out] at h; exact h))
      obtain ⟨p0, p1, p2, p3⟩ := hh1
      obtain ⟨q0, q1, q2, q3⟩ := hh2
      obtain ⟨u0, u1, u2, u3⟩ := u
      obtain ⟨v0, v1, v2, v3⟩ := v
      obtain ⟨a1, s1, d1, e1⟩ := m
      obtain ⟨a1', s1', d1', e1'⟩ := m'
      dsimp only at p0 p1 p2 p3 q0 q1 q2 q3
      clear hv1 hv2 hu hv hg hg' hz
      go_wp2_with fail
      have xr1 := cell_regrown r0
      have xr3 := cell_regrown r2
      have xp0 := cell_regrown p0
      have xp1 := cell_regrown p1
      have xp2 := cell_regrown p2
      have xp3 := cell_regrown p3
      have xq0 := cell_regrown q0
      have xq1 := cell_regrown q1
      have xq2 := cell_regrown q2
      have xq3 := cell_regrown q3
      have cw : ∀ d os, Calls Try.prog 18 #[.agg #[.string u0, .slice a1 s1 d1, .int .i64 u2, .int .i64 u3], .agg #[.string v0, .slice a1' s1' d1', .int .i64 v2, .int .i64 v3]] (grow (redrawn wr d) os) (fun e w'' => e = .returned (.bool z) ∧ ∃ q : Regrown, w'' = grow (redrawn wr q.d) q.os) := HCW.out
      clear HCW
      cases z
      · have HE3 := Lib.hid (HF.out rfl)
        clear HF HT
        refine wp_region_quiet_below (by kernel_rfl) (by kernel_rfl) ?_
        repeat (first | go_big_quiet_step (with_reducible exact cw _ _) | quiet_step (with_reducible exact cw _ _))
        refine wpQuiet_nil ?_
        intro w4 hw'
        obtain ⟨⟨dq, osq⟩, hw''⟩ := hw'
        have HB4 : Hid (BoxC W #[.slice A0 n0 c0, .int .i64 x1, .slice A2 n2 c2, .slice (some ⟨b, off, none⟩) n3 c3, .slice A4 n4 c4] #[.slice A0' n0' c0', .int .i64 x1, .slice A2' n2' c2', .slice (some ⟨b', off', none⟩) n3 c3', .slice A4' n4' c4'] w4) := by show BoxC W _ _ w4; rw [hw'']; exact HX.out.grow (below_regrown wr dq osq)
        clear hw'' xr1 xr3 xp0 xp1 xp2 xp3 xq0 xq1 xq2 xq3 cw r0 r1 r2 r3 p0 p1 p2 p3 q0 q1 q2 q3
        go_wp2_with fail
        go_ret
        exact ⟨by rw [HE3.out]; rfl, HB4.out.2.2⟩
      · have HE3 := Lib.hid (HT.out rfl)
        clear HF HT
        refine wp_region_quiet_below (by kernel_rfl) (by kernel_rfl) ?_
        repeat (first | go_big_quiet_step (with_reducible exact cw _ _) | quiet_step (with_reducible exact cw _ _))
        refine wpQuiet_nil ?_
        intro w4 hw'
        obtain ⟨⟨dq, osq⟩, hw''⟩ := hw'
        have HB4 : Hid (BoxC W #[.slice A0 n0 c0, .int .i64 x1, .slice A2 n2 c2, .slice (some ⟨b, off, none⟩) n3 c3, .slice A4 n4 c4] #[.slice A0' n0' c0', .int .i64 x1, .slice A2' n2' c2', .slice (some ⟨b', off', none⟩) n3 c3', .slice A4' n4' c4'] w4) := by show BoxC W _ _ w4; rw [hw'']; exact HX.out.grow (below_regrown wr dq osq)
        clear hw'' xr1 xr3 xp0 xp1 xp2 xp3 xq0 xq1 xq2 xq3 cw r0 r1 r2 r3 p0 p1 p2 p3 q0 q1 q2 q3
        go_wp2_with fail
        go_roundw
        case rel => exact ⟨k + 1, by omega, by go_num, HB4.out.flat, HB4, HE3⟩
        case measure => simp [intOf]; omega
    · have hkn : k = n3 := by omega
      have HE3 : Hid (x3 = y3) := by
        show _ = _
        refine List.ext_getElem? fun j => ?_
        by_cases e : j < n3
        · exact HV.out j (by omega)
        · rw [List.getElem?_eq_none (by have := HK3.out.1; omega), List.getElem?_eq_none (by have := HJ3.out.1; omega)]
      clear HV
      subst hkn
      have hkk : ¬ (k : Int) < (k : Int) := by omega
      clear hlt
      go_wp2_with (go_at_call 17; have HQ := l21SameTexts_any A4 A4' n4 n4' c4 c4' x4 y4 _ (HK4.out.go HX.out.2.2) (HJ4.out.go HX.out.2.2); refine Calls.mono HQ ?_; clear HQ; rintro e w5 ⟨rfl, hb⟩; have HB5 := Lib.hid (HX.out.2.2.trans (hb.mono HX.out.2.2.size)); clear hb)
      go_ret
      exact ⟨by rw [← (HEQ.out HE0.out (by first | rfl | trivial) HE2.out HE3.out)]; rfl, HB5.out⟩
end Go.Proofs.Ytjhemdgeafglhaa
