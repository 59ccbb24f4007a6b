/- Equality of patterns: plain; SamePattern of the model. No condition. -/
import Derived.Test.YtbaadphgbhaboaaPtsEq
namespace Go.Proofs.Ytbaadphgbhaboaa
open Go Go.RowKit

theorem pt_bool (x y : Pt) : tt (x = y) = ((x.k == y.k) && ((x.n == y.n) && ((x.t.toList == y.t.toList) && tt (x.kids = y.kids)))) := by
  rw [Bool.eq_iff_iff]
  simp only [Bool.and_eq_true, tt_iff, beq_iff_eq]
  obtain ⟨a0, a1, a2, a3⟩ := x
  obtain ⟨b0, b1, b2, b3⟩ := y
  simp only [Pt.node.injEq, Pt.k, Pt.n, Pt.t, Pt.kids]
  constructor
  · rintro ⟨h0, h1, h2, h3⟩
    exact ⟨h0, h1, by rw [h2], h3⟩
  · rintro ⟨h0, h1, h2, h3⟩
    exact ⟨h0, h1, WideShapes.bytes_inj (by rw [← ByteArray.toList_eq, ← ByteArray.toList_eq]; exact h2), h3⟩

/-- The same facts in a later world, begun anew there. -/
theorem TwoPt.go {wr w w' : World} {d d' : Nat} {b b' p p' : Nat} {x y : Pt} {A A' : Option Addr} {n n' c c' : Nat} (h : TwoPt wr d d' b b' p p' x y A A' n n' c c' w) (hb : Below w.heap.size w w') : TwoPt w' d d' b b' p p' x y A A' n n' c c' w' :=
  ⟨h.1.below hb h.2.2.2.2.2.1, h.2.1.below hb h.2.2.2.2.2.2, h.2.2.1.go hb, h.2.2.2.1.go hb, Below.refl _ _, Nat.lt_of_lt_of_le h.2.2.2.2.2.1 hb.size, Nat.lt_of_lt_of_le h.2.2.2.2.2.2 hb.size⟩
/-- Two parents in boxes g, g + 1, and two of their Kids. -/
abbrev FlatPt2 (wr : World) (d b1 b2 o1 o2 j : Nat) (x1 y1 : Pt) (A1 A2 : Option Addr) (n1 n2 c1 c2 g : Nat) (x y : Pt) (A A' : Option Addr) (n c c' : Nat) (w : World) : Prop :=
  FlatPt wr d d g (g + 1) 0 0 x y A A' n n c c' w ∧ PtAt w b1 (o1 + j * 4) x1 A1 n1 c1 ∧ PtAt w b2 (o2 + j * 4) y1 A2 n2 c2
abbrev FlatPt3 (wr : World) (d b1 b2 o1 o2 j : Nat) (x1 y1 : Pt) (A1 A2 : Option Addr) (n1 n2 c1 c2 g : Nat) (x y : Pt) (A A' : Option Addr) (n c c' : Nat) (w : World) : Prop :=
  (w.cell? ⟨g, 3, none⟩ = some (.slice A n c) ∧ w.cell? ⟨g + 1, 3, none⟩ = some (.slice A' n c')) ∧ (w.cell? ⟨b1, o1 + j * 4, none⟩ = some (.int .i64 x1.k) ∧ w.cell? ⟨b1, o1 + j * 4 + 1, none⟩ = some (.int .i64 x1.n) ∧ w.cell? ⟨b1, o1 + j * 4 + 2, none⟩ = some (.string x1.t) ∧ w.cell? ⟨b1, o1 + j * 4 + 3, none⟩ = some (.slice A1 n1 c1)) ∧ (w.cell? ⟨b2, o2 + j * 4, none⟩ = some (.int .i64 y1.k) ∧ w.cell? ⟨b2, o2 + j * 4 + 1, none⟩ = some (.int .i64 y1.n) ∧ w.cell? ⟨b2, o2 + j * 4 + 2, none⟩ = some (.string y1.t) ∧ w.cell? ⟨b2, o2 + j * 4 + 3, none⟩ = some (.slice A2 n2 c2))
section
variable {wr w w' : World} {d b1 b2 o1 o2 j : Nat} {x1 y1 : Pt} {A1 A2 : Option Addr} {n1 n2 c1 c2 g : Nat} {x y : Pt} {A A' : Option Addr} {n c c' : Nat}
theorem FlatPt2.flat (h : FlatPt2 wr d b1 b2 o1 o2 j x1 y1 A1 A2 n1 n2 c1 c2 g x y A A' n c c' w) : FlatPt3 wr d b1 b2 o1 o2 j x1 y1 A1 A2 n1 n2 c1 c2 g x y A A' n c c' w :=
  ⟨⟨by have := h.1.1.2.2.2; simpa using this, by have := h.1.2.1.2.2.2; simpa using this⟩, h.2.1, h.2.2⟩
theorem FlatPt2.grow (h : FlatPt2 wr d b1 b2 o1 o2 j x1 y1 A1 A2 n1 n2 c1 c2 g x y A A' n c c' w) (hb : Below w.heap.size w w') (h1 : b1 < w.heap.size) (h2 : b2 < w.heap.size) : FlatPt2 wr d b1 b2 o1 o2 j x1 y1 A1 A2 n1 n2 c1 c2 g x y A A' n c c' w' :=
  ⟨(TwoPt.grow h.1.2.2 hb).flat, h.2.1.below hb h1, h.2.2.below hb h2⟩
end
/-- The contract of SamePattern at depth d. -/
def SamePtAt (d : Nat) : Prop := ∀ (x y : Pt) (A A' : Option Addr) (n n' c c' : Nat) (W : World), PtV W 0 W.heap.size d x A n → PtV W 0 W.heap.size d y A' n' →
  Calls Try.prog 10 #[x.ag A n c, y.ag A' n' c'] W fun e w' => e = .returned (.bool (tt (x = y))) ∧ Below W.heap.size W w'

set_option maxHeartbeats 2000000 in
set_option maxRecDepth 100000 in
theorem samePt_step (d : Nat) (x y : Pt) (A A' : Option Addr) (n n' c c' : Nat) (W : World) (ih : 0 < n → SamePtAt d) (hx : PtV W 0 W.heap.size (d + 1) x A n) (hy : PtV W 0 W.heap.size (d + 1) y A' n') :
    Calls Try.prog 10 #[x.ag A n c, y.ag A' n' c'] W fun e w' => e = .returned (.bool (tt (x = y))) ∧ Below W.heap.size W w' := by
  rw [pt_bool]
  obtain ⟨k, m, t, ks⟩ := x
  obtain ⟨k', m', t', ks'⟩ := y
  have HIH := Lib.hid ih
  have HC : Hid (∀ X, X = (W.alloc (.cells #[.int .i64 k, .int .i64 m, .string t, .slice A n c] 29)).alloc (.cells #[.int .i64 k', .int .i64 m', .string t', .slice A' n' c'] 29) → TwoPt X (d + 1) (d + 1) W.heap.size (W.heap.size + 1) 0 0 (.node k m t ks) (.node k' m' t' ks') A A' n n' c c' X ∧ Below W.heap.size W X) := by
    intro X e
    obtain ⟨g0, g1, g2, g3⟩ := two_new W _ _ _ X e
    exact ⟨⟨⟨g0.cell 0, g0.cell 1, g0.cell 2, g0.cell 3⟩, ⟨g1.cell 0, g1.cell 1, g1.cell 2, g1.cell 3⟩, hx.go g2, hy.go g2, Below.refl _ _, by omega, by omega⟩, g2⟩
  dsimp only [Pt.k, Pt.n, Pt.t, Pt.kids]
  have HN : Hid (ks.length = n) := hx.2.1
  have HN' : Hid (ks'.length = n') := hy.2.1
  have hn : n ≤ maxLen := hx.2.2.1
  have hn' : n' ≤ maxLen := hy.2.2.1
  unfold maxLen at hn hn'
  clear hx hy ih
  obtain ⟨z0, hz0⟩ : ∃ z, (k == k') = z := ⟨_, rfl⟩
  obtain ⟨z1, hz1⟩ : ∃ z, (m == m') = z := ⟨_, rfl⟩
  obtain ⟨z2, hz2⟩ : ∃ z, (t.toList == t'.toList) = z := ⟨_, rfl⟩
  rw [hz0, hz1, hz2]
  show Calls Try.prog 10 #[.agg #[.int .i64 k, .int .i64 m, .string t, .slice A n c], .agg #[.int .i64 k', .int .i64 m', .string t', .slice A' n' c']] W _
  cases z0
  · have g0 : (k != k') = true := by rw [bne, hz0]; rfl
    go_enter Try.func10, Try.ntmps10
    go_wp2_with fail
    go_ret
    exact ⟨rfl, (below_alloc _ _).alloc (by simp) _⟩
  have g0 : (k != k') = false := by rw [bne, hz0]; rfl
  cases z1
  · have g1 : (m != m') = true := by rw [bne, hz1]; rfl
    go_enter Try.func10, Try.ntmps10
    go_wp2_with fail
    go_ret
    exact ⟨rfl, (below_alloc _ _).alloc (by simp) _⟩
  have g1 : (m != m') = false := by rw [bne, hz1]; rfl
  cases z2
  · have g2 : (t.toList != t'.toList) = true := by rw [bne, hz2]; rfl
    go_enter Try.func10, Try.ntmps10
    go_wp2_with fail
    go_ret
    exact ⟨rfl, (below_alloc _ _).alloc (by simp) _⟩
  have g2 : (t.toList != t'.toList) = false := by rw [bne, hz2]; rfl
  simp only [Bool.true_and]
  by_cases hnn : n = n'
  · subst hnn
    have g3 : ((n : Int) != (n : Int)) = false := by simp
    obtain ⟨E, hE⟩ : ∃ E, tt (ks = ks') = E := ⟨_, rfl⟩
    have HE := Lib.hid hE
    rw [hE]
    clear hE
    go_enter Try.func10, Try.ntmps10
    go_wp2_with fail
    obtain ⟨H0, HW0⟩ := HC.out _ rfl
    have H0 := Lib.hid H0
    have HW0 := Lib.hid HW0
    generalize (W.alloc (.cells #[.int .i64 k, .int .i64 m, .string t, .slice A n c] 29)).alloc (.cells #[.int .i64 k', .int .i64 m', .string t', .slice A' n c'] 29) = w0 at H0 HW0 ⊢
    clear HC
    go_loopw [5] (fun i wr => ∃ j : Nat, j ≤ n ∧ i = .int .i64 j ∧ Hid (Below w0.heap.size w0 wr) ∧ Hid (∀ q, q < j → ks[q]? = ks'[q]?)) (fun i _ => n - (intOf i).toNat)
    case atStart => exact ⟨0, Nat.zero_le _, rfl, Below.refl _ _, fun q hq => absurd hq (by omega)⟩
    case round =>
      obtain ⟨j, hj, rfl, HW, HEQ⟩ := hrel
      have HT := Lib.hid (TwoPt.go H0.out HW.out)
      have HWW : Hid (Below W.heap.size W wr) := HW0.out.trans (HW.out.mono HW0.out.size)
      obtain ⟨⟨q0, q1, q2, q3⟩, ⟨r0, r1, r2, r3⟩, -⟩ := HT.out.flat
      by_cases hlt : j < n
      · obtain ⟨b1, o1, x1, A1, n1, c1, rfl, _, hg1, hx1, _, e1, hs1, hv1⟩ := (show PtD wr 0 wr.heap.size (d + 1) A n ks from HT.out.2.2.1.2).at_ hlt
        obtain ⟨b2, o2, y1, A2, n2, c2, rfl, _, hg2, hy1, _, e2, hs2, hv2⟩ := (show PtD wr 0 wr.heap.size (d + 1) A' n ks' from HT.out.2.2.2.1.2).at_ hlt
        have HQ := Lib.hid (fun (w : World) (hb : Below wr.heap.size wr w) => HIH.out (by omega) x1 y1 A1 A2 n1 n2 c1 c2 w ⟨hs1, hv1.go hb⟩ ⟨hs2, hv2.go hb⟩)
        obtain ⟨P, hP⟩ : ∃ P, tt (x1 = y1) = P := ⟨_, rfl⟩
        have HP := Lib.hid hP
        have HX := Lib.hid hx1
        have HY := Lib.hid hy1
        have HL := Lib.hid hlt
        have HG1 := Lib.hid hg1
        have HG2 := Lib.hid hg2
        have HE1 := Lib.hid e1
        have HE2 := Lib.hid e2
        clear hP hx1 hy1 e1 e2 hs1 hs2 hv1 hv2 hg1 hg2
        have k0 : (0 : Int) ≤ (j : Int) := by omega
        have k1 : (j : Int) < (n : Int) := by omega
        have HD : Hid (FlatPt2 wr (d + 1) b1 b2 o1 o2 j x1 y1 A1 A2 n1 n2 c1 c2 W.heap.size (.node k m t ks) (.node k' m' t' ks') (some ⟨b1, o1, none⟩) (some ⟨b2, o2, none⟩) n c c' wr.drew) := by
          have h := TwoPt.grow HT.out (Below.refl _ _).drew
          exact ⟨h.flat, HE1.out.below (Below.refl _ _).drew HG1.out, HE2.out.below (Below.refl _ _).drew HG2.out⟩
        cases P
        all_goals
          go_wp2_with fail
          go_region_held3 (fun w' => FlatPt3 wr (d + 1) b1 b2 o1 o2 j x1 y1 A1 A2 n1 n2 c1 c2 W.heap.size (.node k m t ks) (.node k' m' t' ks') (some ⟨b1, o1, none⟩) (some ⟨b2, o2, none⟩) n c c' w')
            (first | exact FlatPt2.flat HD.out | exact FlatPt2.flat HD2.out | go_keep)
            ((go_at_call 10; refine Calls.mono (HQ.out _ (Below.refl _ _).drew) ?_; rintro e w2 ⟨rfl, hb⟩; rw [HP.out]; have HD2 := Lib.hid (FlatPt2.grow HD.out hb HG1.out HG2.out); clear hb))
          go_split_ands
          go_wp2_with fail
        · go_ret
          have hne : tt (ks = ks') = false := tt_false fun e => by
            have h1 := HX.out
            have h2 := HY.out
            rw [e, h2] at h1
            exact of_tt_false HP.out (Option.some.inj h1).symm
          exact ⟨by rw [← HE.out, hne]; first | done | rfl, HWW.out.trans (HD2.out.1.2.2.2.2.2.2.1.mono HWW.out.size)⟩
        · go_roundw
          case rel =>
            refine ⟨j + 1, HL.out, by go_num, HW.out.trans (HD2.out.1.2.2.2.2.2.2.1.mono HW.out.size), fun q hq => ?_⟩
            by_cases e : q = j
            · subst e
              rw [HX.out, HY.out, of_tt HP.out]
            · exact HEQ.out q (by omega)
          case measure => simp [intOf]; have := HL.out; omega
      · have HJ : Hid (j = n) := by show _ = _; omega
        go_wp2_with fail
        go_ret
        have h1 : ks = ks' := by
          refine List.ext_getElem? fun q => ?_
          by_cases hq : q < n
          · exact HEQ.out q (by rw [HJ.out]; exact hq)
          · rw [List.getElem?_eq_none (by rw [HN.out]; omega), List.getElem?_eq_none (by rw [HN'.out]; omega)]
        exact ⟨by rw [← HE.out, tt_true h1]; first | done | rfl, HWW.out⟩
  · have g3 : ((n : Int) != (n' : Int)) = true := by simp; omega
    have HE : Hid (tt (ks = ks') = false) := tt_false fun e => by
      have h1 := HN.out
      have h2 := HN'.out
      rw [e] at h1
      omega
    rw [HE.out]
    go_enter Try.func10, Try.ntmps10
    go_wp2_with fail
    go_ret
    exact ⟨rfl, (below_alloc _ _).alloc (by simp) _⟩

theorem samePt_all : ∀ d, SamePtAt d := by
  intro d
  induction d with
  | zero =>
    intro x y A A' n n' c c' W hx hy
    have h0 : n = 0 := hx.2.2
    exact samePt_step 0 x y A A' n n' c c' W (fun hn => absurd hn (by omega)) ⟨hx.1, hx.2.deeper⟩ ⟨hy.1, hy.2.deeper⟩
  | succ d ih =>
    intro x y A A' n n' c c' W hx hy
    exact samePt_step d x y A A' n n' c c' W (fun _ => ih) hx hy
end Go.Proofs.Ytbaadphgbhaboaa
