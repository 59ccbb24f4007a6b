/- Contract: the model's SameScope. No condition. -/
import Derived.Test.YtnedihiagaepjaaScsEq
import Derived.Test.YtnedihiagaepjaaBdSame
import Derived.Test.YtnedihiagaepjaaFnSame1
import Derived.Test.YtnedihiagaepjaaRtSame1
import Derived.Lib.QuietBelow
import Derived.BigQuiet
namespace Go.Proofs.Ytnedihiagaepjaa
open Go Go.RowKit Go.Sort

theorem bytes_beq (a b : ByteArray) : (a.toList == b.toList) = true ↔ a = b := sameSt_iff a b
theorem fnS_bool (x y : Fn) : tt (x = y) = ((x.name_.toList == y.name_.toList) && ((x.label_.toList == y.label_.toList) && (tt (x.params_ = y.params_) && tt (x.locals_ = y.locals_)))) := by
  rw [Bool.eq_iff_iff]
  simp only [Bool.and_eq_true, tt_iff, bytes_beq]
  obtain ⟨a0, a1, a2, a3⟩ := x
  obtain ⟨b0, b1, b2, b3⟩ := y
  simp only [Fn.mk.injEq]
  constructor
  · rintro ⟨h0, h1, h2, h3⟩
    exact ⟨h0, h3, h1, h2⟩
  · rintro ⟨h0, h3, h1, h2⟩
    exact ⟨h0, h1, h2, h3⟩
theorem rtS_bool (x y : Rt) : tt (x = y) = ((x.name_.toList == y.name_.toList) && tt (x.fields_ = y.fields_)) := by
  rw [Bool.eq_iff_iff]
  simp only [Bool.and_eq_true, tt_iff, bytes_beq]
  obtain ⟨a0, a1⟩ := x
  obtain ⟨b0, b1⟩ := y
  simp only [Rt.mk.injEq]
/-- Both boxes. -/
def BoxS (W : World) (X Y : Array Value) (w : World) : Prop := RW 33 w W.heap.size X ∧ RW 33 w (W.heap.size + 1) Y ∧ Below W.heap.size W w
theorem BoxS.grow {W w w' : World} {X Y : Array Value} (h : BoxS W X Y w) (hb : Below w.heap.size w w') : BoxS W X Y w' :=
  ⟨h.1.below hb h.1.lt, h.2.1.below hb h.2.1.lt, h.2.2.trans (hb.mono h.2.2.size)⟩
abbrev FlatBS (W : World) (A1 A2 A1' A2' : Option Addr) (n1 c1 n2 c2 c1' c2' : Nat) (w : World) : Prop :=
  w.cell? ⟨W.heap.size, 1, none⟩ = some (.slice A1 n1 c1) ∧ w.cell? ⟨W.heap.size, 2, none⟩ = some (.slice A2 n2 c2) ∧ w.cell? ⟨W.heap.size + 1, 1, none⟩ = some (.slice A1' n1 c1') ∧ w.cell? ⟨W.heap.size + 1, 2, none⟩ = some (.slice A2' n2 c2')
theorem BoxS.flat {W w : World} {A0 A1 A2 A0' A1' A2' : Option Addr} {n0 c0 n1 c1 n2 c2 n0' c0' c1' c2' : Nat} (h : BoxS W #[.slice A0 n0 c0, .slice A1 n1 c1, .slice A2 n2 c2] #[.slice A0' n0' c0', .slice A1' n1 c1', .slice A2' n2 c2'] w) : FlatBS W A1 A2 A1' A2' n1 c1 n2 c2 c1' c2' w :=
  ⟨h.1.cell 1, h.1.cell 2, h.2.1.cell 1, h.2.1.cell 2⟩

set_option maxHeartbeats 8000000 in
set_option maxRecDepth 100000 in
theorem spec_SameScope_any (x y : Sc) (l l' : ScLay) (W : World) (hx : ScV W W.heap.size x l) (hy : ScV W W.heap.size y l') :
    Calls Try.prog 9 #[x.ag l, y.ag l'] W fun e w' => e = .returned (.bool (tt (x = y))) ∧ Below W.heap.size W w' := by
  obtain ⟨x0, x1, x2⟩ := x
  obtain ⟨y0, y1, y2⟩ := y
  obtain ⟨A0, n0, c0, h0, A1, n1, c1, h1, A2, n2, c2, h2⟩ := l
  obtain ⟨A0', n0', c0', h0', A1', n1', c1', h1', A2', n2', c2', h2'⟩ := l'
  obtain ⟨k0, k1, k2⟩ := hx
  obtain ⟨j0, j1, j2⟩ := hy
  dsimp only at k0 k1 k2 j0 j1 j2
  have hn1 := k1.2.1
  have hn1' := j1.2.1
  have hn2 := k2.2.1
  have hn2' := j2.2.1
  unfold maxLen at hn1 hn1' hn2 hn2'
  have HK0 := Lib.hid k0
  have HK1 := Lib.hid k1
  have HK2 := Lib.hid k2
  have HJ0 := Lib.hid j0
  have HJ1 := Lib.hid j1
  have HJ2 := Lib.hid j2
  clear k0 k1 k2 j0 j1 j2
  obtain ⟨P, hP⟩ : ∃ P, tt ((⟨x0, x1, x2⟩ : Sc) = ⟨y0, y1, y2⟩) = P := ⟨_, rfl⟩
  have HP := Lib.hid hP
  rw [hP]
  clear hP
  have HNE : Hid ((x0 ≠ y0 ∨ x1 ≠ y1 ∨ x2 ≠ y2) → P = false) := by
    show _ → _
    intro h
    rw [← HP.out]
    refine tt_false fun e => ?_
    simp only [Sc.mk.injEq] at e
    rcases h with h | h | h
    · exact h e.1
    · exact h e.2.1
    · exact h e.2.2
  have HEQ : Hid (x0 = y0 → x1 = y1 → x2 = y2 → P = true) := by
    show _ → _ → _ → _
    intro e0 e1 e2
    rw [← HP.out, e0, e1, e2]
    exact tt_true rfl
  clear HP
  have HC := Lib.hid (two_new W 33 #[.slice A0 n0 c0, .slice A1 n1 c1, .slice A2 n2 c2] #[.slice A0' n0' c0', .slice A1' n1' c1', .slice A2' n2' c2'])
  obtain ⟨z0, hz0⟩ : ∃ z, tt (x0 = y0) = z := ⟨_, rfl⟩
  have HZ0 := Lib.hid hz0
  clear hz0
  show Calls Try.prog 9 #[.agg #[.slice A0 n0 c0, .slice A1 n1 c1, .slice A2 n2 c2], .agg #[.slice A0' n0' c0', .slice A1' n1' c1', .slice A2' n2' c2']] W _
  cases z0
  · have HF : Hid (P = false) := HNE.out (.inl (of_tt_false HZ0.out))
    go_enter Try.func9, Try.ntmps9
    go_wp2_with (go_at_call 34; obtain ⟨g0, g1, g2, g3⟩ := HC.out _ rfl; have HQ := l18SameBindings_any A0 A0' n0 n0' c0 c0' x0 y0 _ (HK0.out.go g2) (HJ0.out.go g2); refine Calls.mono HQ ?_; clear HQ; rintro e w1 ⟨rfl, hb⟩; rw [HZ0.out]; have HB1 := Lib.hid (g2.trans (hb.mono g2.size)); clear g0 g1 g2 g3 hb)
    go_ret
    exact ⟨by rw [HF.out]; rfl, HB1.out⟩
  have HE0 := Lib.hid (of_tt HZ0.out)
  have ARM : Hid (∀ X Y : Array Value, ∀ T : TypeId, True) := fun _ _ _ => trivial
  clear ARM
  by_cases hl1 : n1 = n1'
  case neg =>
    have HF : Hid (P = false) := HNE.out (.inr (.inl fun e => hl1 (by rw [← HK1.out.1, ← HJ1.out.1, e])))
    have hne : ¬ (n1 : Int) = (n1' : Int) := by omega
    go_enter Try.func9, Try.ntmps9
    go_wp2_with (go_at_call 34; obtain ⟨g0, g1, g2, g3⟩ := HC.out _ rfl; have HQ := l18SameBindings_any A0 A0' n0 n0' c0 c0' x0 y0 _ (HK0.out.go g2) (HJ0.out.go g2); refine Calls.mono HQ ?_; clear HQ; rintro e w1 ⟨rfl, hb⟩; rw [HZ0.out]; have HX1 : Hid (BoxS W #[.slice A0 n0 c0, .slice A1 n1 c1, .slice A2 n2 c2] #[.slice A0' n0' c0', .slice A1' n1' c1', .slice A2' n2' c2'] w1) := ⟨g0.below hb (by omega), g1.below hb (by omega), g2.trans (hb.mono g2.size)⟩; have r0 : w1.cell? ⟨W.heap.size, 1, none⟩ = some (.slice A1 n1 c1) := HX1.out.1.cell 1; have r1 : w1.cell? ⟨W.heap.size, 2, none⟩ = some (.slice A2 n2 c2) := HX1.out.1.cell 2; have r2 : w1.cell? ⟨W.heap.size + 1, 1, none⟩ = some (.slice A1' n1' c1') := HX1.out.2.1.cell 1; have r3 : w1.cell? ⟨W.heap.size + 1, 2, none⟩ = some (.slice A2' n2' c2') := HX1.out.2.1.cell 2; clear g0 g1 g2 g3 hb HC)
    go_ret
    exact ⟨by rw [HF.out]; rfl, HX1.out.2.2⟩
  subst hl1
  by_cases hl2 : n2 = n2'
  case neg =>
    have HF : Hid (P = false) := HNE.out (.inr (.inr fun e => hl2 (by rw [← HK2.out.1, ← HJ2.out.1, e])))
    have hne : ¬ (n2 : Int) = (n2' : Int) := by omega
    go_enter Try.func9, Try.ntmps9
    go_wp2_with (go_at_call 34; obtain ⟨g0, g1, g2, g3⟩ := HC.out _ rfl; have HQ := l18SameBindings_any A0 A0' n0 n0' c0 c0' x0 y0 _ (HK0.out.go g2) (HJ0.out.go g2); refine Calls.mono HQ ?_; clear HQ; rintro e w1 ⟨rfl, hb⟩; rw [HZ0.out]; have HX1 : Hid (BoxS W #[.slice A0 n0 c0, .slice A1 n1 c1, .slice A2 n2 c2] #[.slice A0' n0' c0', .slice A1' n1 c1', .slice A2' n2' c2'] w1) := ⟨g0.below hb (by omega), g1.below hb (by omega), g2.trans (hb.mono g2.size)⟩; have r0 : w1.cell? ⟨W.heap.size, 1, none⟩ = some (.slice A1 n1 c1) := HX1.out.1.cell 1; have r1 : w1.cell? ⟨W.heap.size, 2, none⟩ = some (.slice A2 n2 c2) := HX1.out.1.cell 2; have r2 : w1.cell? ⟨W.heap.size + 1, 1, none⟩ = some (.slice A1' n1 c1') := HX1.out.2.1.cell 1; have r3 : w1.cell? ⟨W.heap.size + 1, 2, none⟩ = some (.slice A2' n2' c2') := HX1.out.2.1.cell 2; clear g0 g1 g2 g3 hb HC)
    go_ret
    exact ⟨by rw [HF.out]; rfl, HX1.out.2.2⟩
  subst hl2
  go_enter Try.func9, Try.ntmps9
  go_wp2_with (go_at_call 34; obtain ⟨g0, g1, g2, g3⟩ := HC.out _ rfl; have HQ := l18SameBindings_any A0 A0' n0 n0' c0 c0' x0 y0 _ (HK0.out.go g2) (HJ0.out.go g2); refine Calls.mono HQ ?_; clear HQ; rintro e w1 ⟨rfl, hb⟩; rw [HZ0.out]; have HX1 : Hid (BoxS W #[.slice A0 n0 c0, .slice A1 n1 c1, .slice A2 n2 c2] #[.slice A0' n0' c0', .slice A1' n1 c1', .slice A2' n2 c2'] w1) := ⟨g0.below hb (by omega), g1.below hb (by omega), g2.trans (hb.mono g2.size)⟩; have r0 : w1.cell? ⟨W.heap.size, 1, none⟩ = some (.slice A1 n1 c1) := HX1.out.1.cell 1; have r1 : w1.cell? ⟨W.heap.size, 2, none⟩ = some (.slice A2 n2 c2) := HX1.out.1.cell 2; have r2 : w1.cell? ⟨W.heap.size + 1, 1, none⟩ = some (.slice A1' n1 c1') := HX1.out.2.1.cell 1; have r3 : w1.cell? ⟨W.heap.size + 1, 2, none⟩ = some (.slice A2' n2 c2') := HX1.out.2.1.cell 2; clear g0 g1 g2 g3 hb HC)
  go_loopw [5] (fun i wr => ∃ k : Nat, k ≤ n1 ∧ i = .int .i64 k ∧ FlatBS W A1 A2 A1' A2' n1 c1 n2 c2 c1' c2' wr ∧ Hid (BoxS W #[.slice A0 n0 c0, .slice A1 n1 c1, .slice A2 n2 c2] #[.slice A0' n0' c0', .slice A1' n1 c1', .slice A2' n2 c2'] wr) ∧ Hid (∀ (j : Nat), j < k → x1[j]? = y1[j]?)) (fun i _ => n1 - (intOf i).toNat)
  case atStart => exact ⟨0, Nat.zero_le _, rfl, ⟨r0, r1, r2, r3⟩, HX1, Lib.hid (fun j hj => absurd hj (by omega))⟩
  case round =>
    obtain ⟨k, hk, rfl, ⟨r0, r1, r2, r3⟩, HX, HV⟩ := hrel
    by_cases hlt : k < n1
    · have b0 : (0 : Int) ≤ (k : Int) := by omega
      have b1 : (k : Int) < (n1 : Int) := by omega
      obtain ⟨b, off, u, m, rfl, hg, hu, hh1, hv1⟩ := (HK1.out.go HX.out.2.2).at_ hlt
      obtain ⟨b', off', v, m', rfl, hg', hv, hh2, hv2⟩ := (HJ1.out.go HX.out.2.2).at_ hlt
      have HU := Lib.hid hu
      have HW := Lib.hid hv
      have HFB := Lib.hid (fnS_bool u v)
      obtain ⟨u0, u1, u2, u3⟩ := u
      obtain ⟨v0, v1, v2, v3⟩ := v
      obtain ⟨a1, s1, d1, e1, a2, s2, d2, e2⟩ := m
      obtain ⟨a1', s1', d1', e1', a2', s2', d2', e2'⟩ := m'
      have f1 := fun (o : Obj) => (FnAt.below hh2 (below_alloc wr o) hg')
      have HT2 := Lib.hid (two_new wr 40 #[.string u0, .slice a1 s1 d1, .slice a2 s2 d2, .string u3] #[.string v0, .slice a1' s1' d1', .slice a2' s2' d2', .string v3])
      obtain ⟨p0, p1, p2, p3⟩ := hh1
      obtain ⟨q0, q1, q2, q3⟩ := f1 (.cells #[.string u0, .slice a1 s1 d1, .slice a2 s2 d2, .string u3] 40)
      have rr2 : (wr.alloc (.cells #[.string u0, .slice a1 s1 d1, .slice a2 s2 d2, .string u3] 40)).cell? ⟨W.heap.size + 1, 1, none⟩ = some (.slice (some ⟨b', off', none⟩) n1 c1') := (HX.out.grow (below_alloc wr _)).2.1.cell 1
      obtain ⟨hx1, hx2, _, _⟩ := hv1
      obtain ⟨hy1, hy2, _, _⟩ := hv2
      have HX1 := Lib.hid hx1
      have HX2 := Lib.hid hx2
      have HY1 := Lib.hid hy1
      have HY2 := Lib.hid hy2
      clear hx1 hx2 hy1 hy2 hu hv f1 hh2 hg hg'
      dsimp only at p0 p1 p2 p3 q0 q1 q2 q3 HFB HX1 HX2 HY1 HY2
      obtain ⟨z0, hz0⟩ : ∃ z, (u0.toList == v0.toList) = z := ⟨_, rfl⟩
      obtain ⟨z3, hz3⟩ : ∃ z, (u3.toList == v3.toList) = z := ⟨_, rfl⟩
      obtain ⟨z1, hz1⟩ : ∃ z, tt (u1 = v1) = z := ⟨_, rfl⟩
      obtain ⟨z2, hz2⟩ : ∃ z, tt (u2 = v2) = z := ⟨_, rfl⟩
      have HFB2 : Hid (tt ((⟨u0, u1, u2, u3⟩ : Fn) = ⟨v0, v1, v2, v3⟩) = (z0 && (z3 && (z1 && z2)))) := by show _ = _; rw [HFB.out, hz0, hz3, hz1, hz2]
      have HZ1 := Lib.hid hz1
      have HZ2 := Lib.hid hz2
      have HF : Hid ((z0 && (z3 && (z1 && z2))) = false → P = false) := by
        show _ → _
        intro h
        refine HNE.out (.inr (.inl fun e => ?_))
        have e2 : some (⟨u0, u1, u2, u3⟩ : Fn) = some ⟨v0, v1, v2, v3⟩ := by rw [← HU.out, ← HW.out, e]
        have e3 := HFB2.out
        rw [h, Option.some.inj e2, tt_true rfl] at e3
        cases e3
      have HT : Hid ((z0 && (z3 && (z1 && z2))) = true → ∀ (j : Nat), j < k + 1 → x1[j]? = y1[j]?) := by
        show _ → _
        intro h j hj
        by_cases e : j = k
        · have e3 := HFB2.out
          rw [h] at e3
          rw [e, HU.out, HW.out, of_tt e3]
        · exact HV.out j (by omega)
      clear hz1 hz2 HFB HFB2
      cases z0
      · skip
        have HE1 := Lib.hid (HF.out (by simp))
        clear HF HT
        go_wp2_with fail
        go_ret
        exact ⟨by rw [HE1.out]; rfl, HX.out.2.2.trans (((below_alloc _ _).alloc (by simp) _).mono HX.out.2.2.size)⟩
      cases z3
      · skip
        have HE1 := Lib.hid (HF.out (by simp))
        clear HF HT
        go_wp2_with fail
        go_ret
        exact ⟨by rw [HE1.out]; rfl, HX.out.2.2.trans (((below_alloc _ _).alloc (by simp) _).mono HX.out.2.2.size)⟩
      cases z1
      · skip
        have HE1 := Lib.hid (HF.out (by simp))
        clear HF HT
        have tk1 : True := trivial
        go_wp2_with (go_at_call 35; have tk := tk1; obtain ⟨g0, g1, g2, g3⟩ := HT2.out _ rfl; have HQ := l18SameTexts_any a1 a1' s1 s1' d1 d1' u1 v1 _ (HX1.out.go g2) (HY1.out.go g2); refine Calls.mono HQ ?_; clear HQ; rintro e wy1 ⟨rfl, hb⟩; rw [HZ1.out]; have HA1 := Lib.hid (g0.below hb (by omega)); have HD1 := Lib.hid (g1.below hb (by omega)); have HB1 := Lib.hid (g2.trans (hb.mono g2.size)); have HG1 : Hid (wr.heap.size + 2 ≤ wy1.heap.size) := (by have := hb.size; show _ ≤ _; omega); clear g0 g1 g2 g3 hb tk tk1)
        go_ret
        exact ⟨by rw [HE1.out]; rfl, HX.out.2.2.trans (HB1.out.mono HX.out.2.2.size)⟩
      cases z2
      · skip
        have HE1 := Lib.hid (HF.out (by simp))
        clear HF HT
        have tk1 : True := trivial
        go_wp2_with (go_at_call 35; have tk := tk1; obtain ⟨g0, g1, g2, g3⟩ := HT2.out _ rfl; have HQ := l18SameTexts_any a1 a1' s1 s1' d1 d1' u1 v1 _ (HX1.out.go g2) (HY1.out.go g2); refine Calls.mono HQ ?_; clear HQ; rintro e wy1 ⟨rfl, hb⟩; rw [HZ1.out]; have HA1 := Lib.hid (g0.below hb (by omega)); have HD1 := Lib.hid (g1.below hb (by omega)); have HB1 := Lib.hid (g2.trans (hb.mono g2.size)); have HG1 : Hid (wr.heap.size + 2 ≤ wy1.heap.size) := (by have := hb.size; show _ ≤ _; omega); have qq2 : wy1.cell? ⟨wr.heap.size, 2, none⟩ = some (.slice a2 s2 d2) := HA1.out.cell 2; have pp2 : wy1.cell? ⟨wr.heap.size + 1, 2, none⟩ = some (.slice a2' s2' d2') := HD1.out.cell 2; clear g0 g1 g2 g3 hb tk tk1)
        have tk2 : True := trivial
        go_wp2_with (go_at_call 35; have tk := tk2; have HQ := l18SameTexts_any a2 a2' s2 s2' d2 d2' u2 v2 _ (HX2.out.go HB1.out) (HY2.out.go HB1.out); refine Calls.mono HQ ?_; clear HQ; rintro e wy2 ⟨rfl, hb⟩; rw [HZ2.out]; have HB2 := Lib.hid (HB1.out.trans (hb.mono HB1.out.size)); clear hb tk tk2)
        go_ret
        exact ⟨by rw [HE1.out]; rfl, HX.out.2.2.trans (HB2.out.mono HX.out.2.2.size)⟩
      have HE1 := Lib.hid (HT.out (by simp))
      clear HF HT
      have tk1 : True := trivial
      go_wp2_with (go_at_call 35; have tk := tk1; obtain ⟨g0, g1, g2, g3⟩ := HT2.out _ rfl; have HQ := l18SameTexts_any a1 a1' s1 s1' d1 d1' u1 v1 _ (HX1.out.go g2) (HY1.out.go g2); refine Calls.mono HQ ?_; clear HQ; rintro e wy1 ⟨rfl, hb⟩; rw [HZ1.out]; have HA1 := Lib.hid (g0.below hb (by omega)); have HD1 := Lib.hid (g1.below hb (by omega)); have HB1 := Lib.hid (g2.trans (hb.mono g2.size)); have HG1 : Hid (wr.heap.size + 2 ≤ wy1.heap.size) := (by have := hb.size; show _ ≤ _; omega); have qq2 : wy1.cell? ⟨wr.heap.size, 2, none⟩ = some (.slice a2 s2 d2) := HA1.out.cell 2; have pp2 : wy1.cell? ⟨wr.heap.size + 1, 2, none⟩ = some (.slice a2' s2' d2') := HD1.out.cell 2; clear g0 g1 g2 g3 hb tk tk1)
      have tk2 : True := trivial
      go_wp2_with (go_at_call 35; have tk := tk2; have HQ := l18SameTexts_any a2 a2' s2 s2' d2 d2' u2 v2 _ (HX2.out.go HB1.out) (HY2.out.go HB1.out); refine Calls.mono HQ ?_; clear HQ; rintro e wy2 ⟨rfl, hb⟩; rw [HZ2.out]; have HB2 := Lib.hid (HB1.out.trans (hb.mono HB1.out.size)); clear hb tk tk2)
      have HX3 := Lib.hid (HX.out.grow HB2.out)
      go_roundw
      case rel => exact ⟨k + 1, by omega, by go_num, HX3.out.flat, HX3, HE1⟩
      case measure => simp [intOf]; omega
    · have hkn : k = n1 := by omega
      have HE1 : Hid (x1 = y1) := by
        show _ = _
        refine List.ext_getElem? fun j => ?_
        by_cases e : j < n1
        · exact HV.out j (by omega)
        · rw [List.getElem?_eq_none (by have := HK1.out.1; omega), List.getElem?_eq_none (by have := HJ1.out.1; omega)]
      clear HV
      subst hkn
      have hkk : ¬ (k : Int) < (k : Int) := by omega
      clear hlt
      go_wp2_with fail
      go_loopw [8] (fun i wr => ∃ q : Nat, q ≤ n2 ∧ i = .int .i64 q ∧ FlatBS W A1 A2 A1' A2' k c1 n2 c2 c1' c2' wr ∧ Hid (BoxS W #[.slice A0 n0 c0, .slice A1 k c1, .slice A2 n2 c2] #[.slice A0' n0' c0', .slice A1' k c1', .slice A2' n2 c2'] wr) ∧ Hid (∀ (j : Nat), j < q → x2[j]? = y2[j]?)) (fun i _ => n2 - (intOf i).toNat)
      case atStart => exact ⟨0, Nat.zero_le _, rfl, ⟨r0, r1, r2, r3⟩, HX, Lib.hid (fun j hj => absurd hj (by omega))⟩
      case round =>
        obtain ⟨q, hq, rfl, ⟨r0, r1, r2, r3⟩, HX, HV⟩ := hrel
        by_cases hlt : q < n2
        · have b0 : (0 : Int) ≤ (q : Int) := by omega
          have b1 : (q : Int) < (n2 : Int) := by omega
          obtain ⟨b, off, u, m, rfl, hg, hu, hh1, hv1⟩ := (HK2.out.go HX.out.2.2).at_ hlt
          obtain ⟨b', off', v, m', rfl, hg', hv, hh2, hv2⟩ := (HJ2.out.go HX.out.2.2).at_ hlt
          have HU := Lib.hid hu
          have HW := Lib.hid hv
          have HFB := Lib.hid (rtS_bool u v)
          obtain ⟨u0, u1⟩ := u
          obtain ⟨v0, v1⟩ := v
          obtain ⟨a1, s1, d1, e1⟩ := m
          obtain ⟨a1', s1', d1', e1'⟩ := m'
          obtain ⟨p0, p1⟩ := hh1
          obtain ⟨q0, q1⟩ := hh2
          have HX1 := Lib.hid hv1.1
          have HY1 := Lib.hid hv2.1
          clear hv1 hv2 hu hv hg hg'
          dsimp only at p0 p1 q0 q1 HFB HX1 HY1
          obtain ⟨z0, hz0⟩ : ∃ z, (u0.toList == v0.toList) = z := ⟨_, rfl⟩
          obtain ⟨z1, hz1⟩ : ∃ z, tt (u1 = v1) = z := ⟨_, rfl⟩
          have HFB2 : Hid (tt ((⟨u0, u1⟩ : Rt) = ⟨v0, v1⟩) = (z0 && z1)) := by show _ = _; rw [HFB.out, hz0, hz1]
          have HZ1 := Lib.hid hz1
          have HF : Hid ((z0 && z1) = false → P = false) := by
            show _ → _
            intro h
            refine HNE.out (.inr (.inr fun e => ?_))
            have e2 : some (⟨u0, u1⟩ : Rt) = some ⟨v0, v1⟩ := by rw [← HU.out, ← HW.out, e]
            have e3 := HFB2.out
            rw [h, Option.some.inj e2, tt_true rfl] at e3
            cases e3
          have HT : Hid ((z0 && z1) = true → ∀ (j : Nat), j < q + 1 → x2[j]? = y2[j]?) := by
            show _ → _
            intro h j hj
            by_cases e : j = q
            · have e3 := HFB2.out
              rw [h] at e3
              rw [e, HU.out, HW.out, of_tt e3]
            · exact HV.out j (by omega)
          clear hz1 HFB HFB2
          go_wp2_with fail
          have xr1 := cell_regrown r1
          have xr3 := cell_regrown r3
          have xp0 := cell_regrown p0
          have xp1 := cell_regrown p1
          have xq0 := cell_regrown q0
          have xq1 := cell_regrown q1
          have cw : ∀ d os, Calls Try.prog 35 #[.slice a1 s1 d1, .slice a1' s1' d1'] (grow (redrawn wr d) os) (fun e w'' => e = .returned (.bool z1) ∧ ∃ q : Regrown, w'' = grow (redrawn wr q.d) q.os) := fun d os => Calls.regrown_of (by have h := l18SameTexts_any a1 a1' s1 s1' d1 d1' u1 v1 (grow (redrawn wr d) os) (HX1.out.go (below_regrown wr d os)) (HY1.out.go (below_regrown wr d os)); rw [HZ1.out] at h; exact h)
          cases z0
          · have HE3 := Lib.hid (HF.out (by simp))
            clear HF HT
            have hb0 : (u0.toList != v0.toList) = true := by rw [bne, hz0]; rfl
            refine wp_region_quiet_below (by kernel_rfl) (by kernel_rfl) ?_
            repeat (first | go_big_quiet_step (with_reducible exact cw _ _) | quiet_step (with_reducible exact cw _ _))
            refine wpQuiet_nil ?_
            intro w4 hw'
            obtain ⟨⟨dq, osq⟩, hw''⟩ := hw'
            have HB4 : Hid (BoxS W #[.slice A0 n0 c0, .slice A1 k c1, .slice (some ⟨b, off, none⟩) n2 c2] #[.slice A0' n0' c0', .slice A1' k c1', .slice (some ⟨b', off', none⟩) n2 c2'] w4) := by show BoxS W #[.slice A0 n0 c0, .slice A1 k c1, .slice (some ⟨b, off, none⟩) n2 c2] #[.slice A0' n0' c0', .slice A1' k c1', .slice (some ⟨b', off', none⟩) n2 c2'] w4; rw [hw'']; exact HX.out.grow (below_regrown wr dq osq)
            clear hw'' xr1 xr3 xp0 xp1 xq0 xq1 cw r0 r1 r2 r3 p0 p1 q0 q1 hz0 hb0
            go_wp2_with fail
            go_ret
            exact ⟨by rw [HE3.out]; rfl, HB4.out.2.2⟩
          have hb0 : (u0.toList != v0.toList) = false := by rw [bne, hz0]; rfl
          cases z1
          · have HE3 := Lib.hid (HF.out (by simp))
            clear HF HT
            refine wp_region_quiet_below (by kernel_rfl) (by kernel_rfl) ?_
            repeat (first | go_big_quiet_step (with_reducible exact cw _ _) | quiet_step (with_reducible exact cw _ _))
            refine wpQuiet_nil ?_
            intro w4 hw'
            obtain ⟨⟨dq, osq⟩, hw''⟩ := hw'
            have HB4 : Hid (BoxS W #[.slice A0 n0 c0, .slice A1 k c1, .slice (some ⟨b, off, none⟩) n2 c2] #[.slice A0' n0' c0', .slice A1' k c1', .slice (some ⟨b', off', none⟩) n2 c2'] w4) := by show BoxS W #[.slice A0 n0 c0, .slice A1 k c1, .slice (some ⟨b, off, none⟩) n2 c2] #[.slice A0' n0' c0', .slice A1' k c1', .slice (some ⟨b', off', none⟩) n2 c2'] w4; rw [hw'']; exact HX.out.grow (below_regrown wr dq osq)
            clear hw'' xr1 xr3 xp0 xp1 xq0 xq1 cw r0 r1 r2 r3 p0 p1 q0 q1 hz0 hb0
            go_wp2_with fail
            go_ret
            exact ⟨by rw [HE3.out]; rfl, HB4.out.2.2⟩
          have HE3 := Lib.hid (HT.out (by simp))
          clear HF HT
          refine wp_region_quiet_below (by kernel_rfl) (by kernel_rfl) ?_
          repeat (first | go_big_quiet_step (with_reducible exact cw _ _) | quiet_step (with_reducible exact cw _ _))
          refine wpQuiet_nil ?_
          intro w4 hw'
          obtain ⟨⟨dq, osq⟩, hw''⟩ := hw'
          have HB4 : Hid (BoxS W #[.slice A0 n0 c0, .slice A1 k c1, .slice (some ⟨b, off, none⟩) n2 c2] #[.slice A0' n0' c0', .slice A1' k c1', .slice (some ⟨b', off', none⟩) n2 c2'] w4) := by show BoxS W #[.slice A0 n0 c0, .slice A1 k c1, .slice (some ⟨b, off, none⟩) n2 c2] #[.slice A0' n0' c0', .slice A1' k c1', .slice (some ⟨b', off', none⟩) n2 c2'] w4; rw [hw'']; exact HX.out.grow (below_regrown wr dq osq)
          clear hw'' xr1 xr3 xp0 xp1 xq0 xq1 cw r0 r1 r2 r3 p0 p1 q0 q1 hz0 hb0
          go_wp2_with fail
          go_roundw
          case rel => exact ⟨q + 1, by omega, by go_num, HB4.out.flat, HB4, HE3⟩
          case measure => simp [intOf]; omega
        · have hqn : q = n2 := by omega
          have HE2 : Hid (P = true) := by
            refine HEQ.out HE0.out HE1.out (List.ext_getElem? fun j => ?_)
            by_cases e : j < n2
            · exact HV.out j (by omega)
            · rw [List.getElem?_eq_none (by have := HK2.out.1; omega), List.getElem?_eq_none (by have := HJ2.out.1; omega)]
          go_wp2_with fail
          go_ret
          exact ⟨by rw [HE2.out]; rfl, HX.out.2.2⟩
end Go.Proofs.Ytnedihiagaepjaa
