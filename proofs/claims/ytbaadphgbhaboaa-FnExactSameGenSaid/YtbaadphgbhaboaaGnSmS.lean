/- Equality of trees: plain; l22Same and SameGen of the model. No condition. -/
import Derived.Test.YtbaadphgbhaboaaGnsEq
import Derived.BigQuiet
namespace Go.Proofs.Ytbaadphgbhaboaa
open Go Go.RowKit

theorem gn_bool (x y : Gn) : tt (x = y) = ((x.k == y.k) && ((x.n == y.n) && ((x.t.toList == y.t.toList) && ((x.vk == y.vk) && ((x.vn == y.vn) && ((x.vt.toList == y.vt.toList) && ((x.vr == y.vr) && tt (x.kids = y.kids)))))))) := by
  rw [Bool.eq_iff_iff]
  simp only [Bool.and_eq_true, tt_iff, beq_iff_eq]
  obtain ⟨a0, a1, a2, a3, a4, a5, a6, a7⟩ := x
  obtain ⟨b0, b1, b2, b3, b4, b5, b6, b7⟩ := y
  simp only [Gn.node.injEq, Gn.k, Gn.n, Gn.t, Gn.vk, Gn.vn, Gn.vt, Gn.vr, Gn.kids]
  constructor
  · rintro ⟨h0, h1, h2, h3, h4, h5, h6, h7⟩
    exact ⟨h0, h1, by rw [h2], h3, h4, by rw [h5], h6, h7⟩
  · rintro ⟨h0, h1, h2, h3, h4, h5, h6, h7⟩
    exact ⟨h0, h1, WideShapes.bytes_inj (by rw [← ByteArray.toList_eq, ← ByteArray.toList_eq]; exact h2), h3, h4, WideShapes.bytes_inj (by rw [← ByteArray.toList_eq, ← ByteArray.toList_eq]; exact h5), h6, h7⟩

/-- The same facts in a later world, begun anew there. -/
theorem TwoGn.go {wr w w' : World} {d d' : Nat} {b b' p p' : Nat} {x y : Gn} {A A' : Option Addr} {n n' c c' : Nat} (h : TwoGn wr d d' b b' p p' x y A A' n n' c c' w) (hb : Below w.heap.size w w') : TwoGn w' d d' b b' p p' x y A A' n n' c c' w' :=
  ⟨h.1.below hb h.2.2.2.2.2.1, h.2.1.below hb h.2.2.2.2.2.2, h.2.2.1.go hb, h.2.2.2.1.go hb, Below.refl _ _, Nat.lt_of_lt_of_le h.2.2.2.2.2.1 hb.size, Nat.lt_of_lt_of_le h.2.2.2.2.2.2 hb.size⟩
/-- The contract of l22Same at depth d. -/
def SameGnAt (d : Nat) : Prop := ∀ (b b' p p' : Nat) (x y : Gn) (A A' : Option Addr) (n n' c c' : Nat) (W : World), TwoGn W d d b b' p p' x y A A' n n' c c' W →
  Calls Try.prog 55 #[.pointer (some ⟨b, p, none⟩), .pointer (some ⟨b', p', none⟩)] W fun e w' => e = .returned (.bool (tt (x = y))) ∧ Below W.heap.size W w'

set_option maxHeartbeats 2000000 in
set_option maxRecDepth 100000 in
theorem sameGn_step (d b b' p p' : Nat) (x y : Gn) (A A' : Option Addr) (n n' c c' : Nat) (W : World) (ih : 0 < n → SameGnAt d) (h : TwoGn W (d + 1) (d + 1) b b' p p' x y A A' n n' c c' W) :
    Calls Try.prog 55 #[.pointer (some ⟨b, p, none⟩), .pointer (some ⟨b', p', none⟩)] W fun e w' => e = .returned (.bool (tt (x = y))) ∧ Below W.heap.size W w' := by
  rw [gn_bool]
  obtain ⟨x0, x1, x2, x3, x4, x5, x6, ks⟩ := x
  obtain ⟨y0, y1, y2, y3, y4, y5, y6, ks'⟩ := y
  have H := Lib.hid h
  have HIH := Lib.hid ih
  obtain ⟨⟨q0, q1, q2, q3, q4, q5, q6, q7⟩, ⟨r0, r1, r2, r3, r4, r5, r6, r7⟩, -⟩ := h.flat
  dsimp only [Gn.k, Gn.n, Gn.t, Gn.vk, Gn.vn, Gn.vt, Gn.vr, Gn.kids] at q0 r0 q1 r1 q2 r2 q3 r3 q4 r4 q5 r5 q6 r6 ⊢
  have HN : Hid (ks.length = n) := h.2.2.1.2.1
  have HN' : Hid (ks'.length = n') := h.2.2.2.1.2.1
  have hn : n ≤ maxLen := h.2.2.1.2.2.1
  have hn' : n' ≤ maxLen := h.2.2.2.1.2.2.1
  unfold maxLen at hn hn'
  clear h ih
  obtain ⟨z0, hz0⟩ : ∃ z, (x0 == y0) = z := ⟨_, rfl⟩
  obtain ⟨z1, hz1⟩ : ∃ z, (x1 == y1) = z := ⟨_, rfl⟩
  obtain ⟨z2, hz2⟩ : ∃ z, (x2.toList == y2.toList) = z := ⟨_, rfl⟩
  obtain ⟨z3, hz3⟩ : ∃ z, (x3 == y3) = z := ⟨_, rfl⟩
  obtain ⟨z4, hz4⟩ : ∃ z, (x4 == y4) = z := ⟨_, rfl⟩
  obtain ⟨z5, hz5⟩ : ∃ z, (x5.toList == y5.toList) = z := ⟨_, rfl⟩
  obtain ⟨z6, hz6⟩ : ∃ z, (x6 == y6) = z := ⟨_, rfl⟩
  rw [hz0, hz1, hz2, hz3, hz4, hz5, hz6]
  cases z0
  · have g0 : (x0 != y0) = true := by rw [bne, hz0]; rfl
    go_enter Try.func55, Try.ntmps55
    go_wp2_with fail
    go_quiet (fail)
    go_wp2_with fail
    go_ret
    exact ⟨rfl, below_drewN (Below.refl _ _) _⟩
  have g0 : (x0 != y0) = false := by rw [bne, hz0]; rfl
  cases z1
  · have g1 : (x1 != y1) = true := by rw [bne, hz1]; rfl
    go_enter Try.func55, Try.ntmps55
    go_wp2_with fail
    go_quiet (fail)
    go_wp2_with fail
    go_ret
    exact ⟨rfl, below_drewN (Below.refl _ _) _⟩
  have g1 : (x1 != y1) = false := by rw [bne, hz1]; rfl
  cases z2
  · have g2 : (x2.toList != y2.toList) = true := by rw [bne, hz2]; rfl
    go_enter Try.func55, Try.ntmps55
    go_wp2_with fail
    go_quiet (fail)
    go_wp2_with fail
    go_ret
    exact ⟨rfl, below_drewN (Below.refl _ _) _⟩
  have g2 : (x2.toList != y2.toList) = false := by rw [bne, hz2]; rfl
  cases z3
  · have g3 : (x3 != y3) = true := by rw [bne, hz3]; rfl
    go_enter Try.func55, Try.ntmps55
    go_wp2_with fail
    go_quiet (fail)
    go_wp2_with fail
    go_ret
    exact ⟨rfl, below_drewN (Below.refl _ _) _⟩
  have g3 : (x3 != y3) = false := by rw [bne, hz3]; rfl
  cases z4
  · have g4 : (x4 != y4) = true := by rw [bne, hz4]; rfl
    go_enter Try.func55, Try.ntmps55
    go_wp2_with fail
    go_quiet (fail)
    go_wp2_with fail
    go_ret
    exact ⟨rfl, below_drewN (Below.refl _ _) _⟩
  have g4 : (x4 != y4) = false := by rw [bne, hz4]; rfl
  cases z5
  · have g5 : (x5.toList != y5.toList) = true := by rw [bne, hz5]; rfl
    go_enter Try.func55, Try.ntmps55
    go_wp2_with fail
    go_quiet (fail)
    go_wp2_with fail
    go_ret
    exact ⟨rfl, below_drewN (Below.refl _ _) _⟩
  have g5 : (x5.toList != y5.toList) = false := by rw [bne, hz5]; rfl
  cases z6
  · have g6 : (x6 != y6) = true := by rw [bne, hz6]; rfl
    go_enter Try.func55, Try.ntmps55
    go_wp2_with fail
    go_quiet (fail)
    go_wp2_with fail
    go_ret
    exact ⟨rfl, below_drewN (Below.refl _ _) _⟩
  have g6 : (x6 != y6) = false := by rw [bne, hz6]; rfl
  simp only [Bool.true_and]
  by_cases hnn : n = n'
  · subst hnn
    have g7 : ((n : Int) != (n : Int)) = false := by simp
    obtain ⟨E, hE⟩ : ∃ E, tt (ks = ks') = E := ⟨_, rfl⟩
    have HE := Lib.hid hE
    rw [hE]
    clear hE
    have H0 := Lib.hid (H.out.grow (Below.refl _ _).drew)
    go_enter Try.func55, Try.ntmps55
    go_wp2_with fail
    go_quiet (fail)
    go_wp2_with fail
    have HW0 := Lib.hid (below_drewN (Below.refl W.heap.size W) nq)
    obtain ⟨w0, hw0⟩ : ∃ w0, W.drewN nq = w0 := ⟨_, rfl⟩
    rw [hw0] at HW0
    rw [hw0]
    clear hw0 q0 r0 q1 r1 q2 r2 q3 r3 q4 r4 q5 r5 q6 r6 q7 r7 H0
    go_loopw [5] (fun i wr => ∃ j : Nat, j ≤ n ∧ i = .int .i64 j ∧ Hid (Below W.heap.size W wr) ∧ Hid (∀ q, q < j → ks[q]? = ks'[q]?)) (fun i _ => n - (intOf i).toNat)
    case atStart => exact ⟨0, Nat.zero_le _, rfl, HW0, fun q hq => absurd hq (by omega)⟩
    case round =>
      obtain ⟨j, hj, rfl, HW, HEQ⟩ := hrel
      have HT := Lib.hid (TwoGn.go H.out HW.out)
      obtain ⟨⟨q0, q1, q2, q3, q4, q5, q6, q7⟩, ⟨r0, r1, r2, r3, r4, r5, r6, r7⟩, -⟩ := HT.out.flat
      by_cases hlt : j < n
      · obtain ⟨b1, o1, u1, A1, n1, c1, rfl, _, hg1, hx1, _, e1, hs1, hv1⟩ := (show GnD wr 0 wr.heap.size (d + 1) A n ks from HT.out.2.2.1.2).at_ hlt
        obtain ⟨b2, o2, v1, A2, n2, c2, rfl, _, hg2, hy1, _, e2, hs2, hv2⟩ := (show GnD wr 0 wr.heap.size (d + 1) A' n ks' from HT.out.2.2.2.1.2).at_ hlt
        have HQ := Lib.hid (fun (w : World) (hb : Below wr.heap.size wr w) => HIH.out (by omega) b1 b2 (o1 + j * 8) (o2 + j * 8) u1 v1 A1 A2 n1 n2 c1 c2 w ⟨e1.below hb hg1, e2.below hb hg2, ⟨hs1, hv1.go hb⟩, ⟨hs2, hv2.go hb⟩, Below.refl _ _, Nat.lt_of_lt_of_le hg1 hb.size, Nat.lt_of_lt_of_le hg2 hb.size⟩)
        obtain ⟨P, hP⟩ : ∃ P, tt (u1 = v1) = P := ⟨_, rfl⟩
        have HP := Lib.hid hP
        have HX := Lib.hid hx1
        have HY := Lib.hid hy1
        have HL := Lib.hid hlt
        clear hP hx1 hy1 e1 e2 hs1 hs2 hv1 hv2 hg1 hg2
        have k0 : (0 : Int) ≤ (j : Int) := by omega
        have k1 : (j : Int) < (n : Int) := by omega
        have HD := Lib.hid (TwoGn.grow HT.out (Below.refl _ _).drew)
        cases P
        all_goals
          go_wp2_with fail
          go_region_held3 (fun w' => FlatGn wr (d + 1) (d + 1) b b' p p' (.node x0 x1 x2 x3 x4 x5 x6 ks) (.node y0 y1 y2 y3 y4 y5 y6 ks') (some ⟨b1, o1, none⟩) (some ⟨b2, o2, none⟩) n n c c' w')
            (first | exact HD.out.flat | exact HD2.out.flat | go_keep)
            ((go_at_call 55; refine Calls.mono (HQ.out _ (Below.refl _ _).drew) ?_; rintro e w2 ⟨rfl, hb⟩; rw [HP.out]; have HD2 := Lib.hid (TwoGn.grow HD.out hb); clear hb))
          go_split_ands
          go_wp2_with fail
        · go_ret
          have hne : tt (ks = ks') = false := tt_false fun e => by
            have h1 := HX.out
            have h2 := HY.out
            rw [e, h2] at h1
            exact of_tt_false HP.out (Option.some.inj h1).symm
          exact ⟨by rw [← HE.out, hne]; first | done | rfl, HW.out.trans (HD2.out.2.2.2.2.1.mono HW.out.size)⟩
        · go_roundw
          case rel =>
            refine ⟨j + 1, HL.out, by go_num, HW.out.trans (HD2.out.2.2.2.2.1.mono HW.out.size), fun q hq => ?_⟩
            by_cases e : q = j
            · subst e
              rw [HX.out, HY.out, of_tt HP.out]
            · exact HEQ.out q (by omega)
          case measure => simp [intOf]; have := HL.out; omega
      · have HJ : Hid (j = n) := by show _ = _; omega
        go_wp2_with fail
        go_ret
        have h1 : ks = ks' := by
          refine List.ext_getElem? fun q => ?_
          by_cases hq : q < n
          · exact HEQ.out q (by rw [HJ.out]; exact hq)
          · rw [List.getElem?_eq_none (by rw [HN.out]; omega), List.getElem?_eq_none (by rw [HN'.out]; omega)]
        exact ⟨by rw [← HE.out, tt_true h1]; first | done | rfl, HW.out⟩
  · have g7 : ((n : Int) != (n' : Int)) = true := by simp; omega
    have HE : Hid (tt (ks = ks') = false) := tt_false fun e => by
      have h1 := HN.out
      have h2 := HN'.out
      rw [e] at h1
      omega
    rw [HE.out]
    go_enter Try.func55, Try.ntmps55
    go_wp2_with fail
    go_quiet (fail)
    go_wp2_with fail
    go_ret
    exact ⟨rfl, below_drewN (Below.refl _ _) _⟩

theorem sameGn_all : ∀ d, SameGnAt d := by
  intro d
  induction d with
  | zero =>
    intro b b' p p' x y A A' n n' c c' W h
    have h0 : n = 0 := h.2.2.1.2.2
    exact sameGn_step 0 b b' p p' x y A A' n n' c c' W (fun hn => absurd hn (by omega)) ⟨h.1, h.2.1, ⟨h.2.2.1.1, h.2.2.1.2.deeper⟩, ⟨h.2.2.2.1.1, h.2.2.2.1.2.deeper⟩, h.2.2.2.2⟩
  | succ d ih =>
    intro b b' p p' x y A A' n n' c c' W h
    exact sameGn_step d b b' p p' x y A A' n n' c c' W (fun _ => ih) h
end Go.Proofs.Ytbaadphgbhaboaa
