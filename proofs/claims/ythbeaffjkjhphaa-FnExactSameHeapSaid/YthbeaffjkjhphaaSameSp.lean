/- Contracts: l07Same, SameHeap of the model. No condition. -/
import Derived.Test.YthbeaffjkjhphaaSameH
import Derived.Deep.QuietTactic
import Derived.BigQuiet
import Derived.Lib.QuietBelow
namespace Go.Proofs.Ythbeaffjkjhphaa
open Go Go.RowKit Go.Sort

/-- Two objects in two blocks, their lists, and the heaps' slices. -/
def PairO (wr : World) (b b' p p' : Nat) (o o' : Ob) (l l' : Lay) (g g' : Nat) (S S' : Value) (w : World) : Prop :=
  O10 w b p o l ∧ O10 w b' p' o' l' ∧ OV w w.heap.size o l ∧ OV w w.heap.size o' l' ∧ Below wr.heap.size wr w ∧ b < w.heap.size ∧ b' < w.heap.size ∧ w.cell? ⟨g, 1, none⟩ = some S ∧ w.cell? ⟨g', 1, none⟩ = some S' ∧ g < w.heap.size ∧ g' < w.heap.size
theorem PairO.grow {wr w w' : World} {b b' p p' : Nat} {o o' : Ob} {l l' : Lay} {g g' : Nat} {S S' : Value} (h : PairO wr b b' p p' o o' l l' g g' S S' w) (hb : Below w.heap.size w w') : PairO wr b b' p p' o o' l l' g g' S S' w' := by
  obtain ⟨h1, h2, h3, h4, h5, h6, h7, h8, h9, ha, hc⟩ := h
  exact ⟨h1.below hb h6, h2.below hb h7, (h3.below hb).more hb.size, (h4.below hb).more hb.size, h5.trans (hb.mono h5.size), Nat.lt_of_lt_of_le h6 hb.size, Nat.lt_of_lt_of_le h7 hb.size, (hb.cell (p := ⟨g, 1, none⟩) ha).trans h8, (hb.cell (p := ⟨g', 1, none⟩) hc).trans h9, Nat.lt_of_lt_of_le ha hb.size, Nat.lt_of_lt_of_le hc hb.size⟩
theorem PairO.drew {wr : World} {b b' p p' : Nat} {o o' : Ob} {l l' : Lay} {g g' : Nat} {S S' : Value} (h : PairO wr b b' p p' o o' l l' g g' S S' wr) : PairO wr b b' p p' o o' l l' g g' S S' wr.drew := h.grow (Below.refl _ _).drew
abbrev FlatP (wr : World) (b b' p p' : Nat) (o o' : Ob) (l l' : Lay) (g g' : Nat) (S S' : Value) (w : World) : Prop := (w.cell? ⟨g, 1, none⟩ = some S ∧ w.cell? ⟨g', 1, none⟩ = some S') ∧ (w.cell? ⟨b, p, none⟩ = some (.int .i64 o.id) ∧ w.cell? ⟨b, p + 1, none⟩ = some (.int .i64 o.kind) ∧ w.cell? ⟨b, p + 2, none⟩ = some (.string o.name) ∧ w.cell? ⟨b, p + 3, none⟩ = some (.int .i64 o.low) ∧ w.cell? ⟨b, p + 4, none⟩ = some (.slice l.Ak l.nk l.ck) ∧ w.cell? ⟨b, p + 5, none⟩ = some (.slice l.Av l.nv l.cv) ∧ w.cell? ⟨b, p + 6, none⟩ = some (.int .i64 o.d.k) ∧ w.cell? ⟨b, p + 7, none⟩ = some (.int .i64 o.d.n) ∧ w.cell? ⟨b, p + 8, none⟩ = some (.string o.d.t) ∧ w.cell? ⟨b, p + 9, none⟩ = some (.int .i64 o.d.r)) ∧ (w.cell? ⟨b', p', none⟩ = some (.int .i64 o'.id) ∧ w.cell? ⟨b', p' + 1, none⟩ = some (.int .i64 o'.kind) ∧ w.cell? ⟨b', p' + 2, none⟩ = some (.string o'.name) ∧ w.cell? ⟨b', p' + 3, none⟩ = some (.int .i64 o'.low) ∧ w.cell? ⟨b', p' + 4, none⟩ = some (.slice l'.Ak l'.nk l'.ck) ∧ w.cell? ⟨b', p' + 5, none⟩ = some (.slice l'.Av l'.nv l'.cv) ∧ w.cell? ⟨b', p' + 6, none⟩ = some (.int .i64 o'.d.k) ∧ w.cell? ⟨b', p' + 7, none⟩ = some (.int .i64 o'.d.n) ∧ w.cell? ⟨b', p' + 8, none⟩ = some (.string o'.d.t) ∧ w.cell? ⟨b', p' + 9, none⟩ = some (.int .i64 o'.d.r)) ∧ PairO wr b b' p p' o o' l l' g g' S S' w
theorem PairO.flat {wr w : World} {b b' p p' : Nat} {o o' : Ob} {l l' : Lay} {g g' : Nat} {S S' : Value} (h : PairO wr b b' p p' o o' l l' g g' S S' w) : FlatP wr b b' p p' o o' l l' g g' S S' w := ⟨⟨h.2.2.2.2.2.2.2.1, h.2.2.2.2.2.2.2.2.1⟩, h.1, h.2.1, h⟩

set_option maxHeartbeats 4000000 in
set_option maxRecDepth 100000 in
theorem l07Same_any (g g' : Nat) (nx nx' : Int) (A A' : Option Addr) (n n' c c' : Nat) (os os' : List Ob) (W : World) (hg : g < W.heap.size) (hg' : g' < W.heap.size)
    (k0 : W.cell? ⟨g, 0, none⟩ = some (.int .i64 nx)) (k1 : W.cell? ⟨g, 1, none⟩ = some (.slice A n c)) (k0' : W.cell? ⟨g', 0, none⟩ = some (.int .i64 nx')) (k1' : W.cell? ⟨g', 1, none⟩ = some (.slice A' n' c'))
    (ha : OI W W.heap.size A n os) (hb : OI W W.heap.size A' n' os') :
    Calls Try.prog 10 #[.pointer (some ⟨g, 0, none⟩), .pointer (some ⟨g', 0, none⟩)] W fun e w' => e = .returned (.bool (tt (nx = nx' ∧ os = os'))) ∧ Below W.heap.size W w' := by
  rw [sameH_bool]
  have HA := Lib.hid ha
  have HB := Lib.hid hb
  have hn := ha.2.1
  have hn' := hb.2.1
  have HN := Lib.hid ha.1
  have HN' := Lib.hid hb.1
  have HK := Lib.hid k1
  have HK' := Lib.hid k1'
  have HG := Lib.hid hg
  have HG' := Lib.hid hg'
  unfold maxLen at hn hn'
  have x0 := cell_regrown k0
  have x1 := cell_regrown k1
  have y0 := cell_regrown k0'
  have y1 := cell_regrown k1'
  clear ha hb hg hg' k0 k1 k0' k1'
  obtain ⟨P, hP⟩ : ∃ P, tt (os = os') = P := ⟨_, rfl⟩
  have HP := Lib.hid hP
  rw [hP]
  clear hP
  obtain ⟨y, hy⟩ : ∃ y, (nx == nx') = y := ⟨_, rfl⟩
  rw [hy]
  cases y
  · have hne : ¬ nx = nx' := by simpa using hy
    go_enter Try.func10, Try.ntmps10
    go_wp2_with fail
    refine wp_region_quiet_below (by kernel_rfl) (by kernel_rfl) ?_
    repeat (first | go_big_quiet_step (fail) | quiet_step (fail))
    refine wpQuiet_nil ?_
    intro w1 hw'
    obtain ⟨⟨dq, osq⟩, hw''⟩ := hw'
    have HB1 : Hid (Below W.heap.size W w1) := by show Below _ _ _; rw [hw'']; exact below_regrown W dq osq
    clear hw'' x0 x1 y0 y1
    go_wp2_with fail
    go_ret
    exact ⟨rfl, HB1.out⟩
  obtain rfl : nx = nx' := by simpa using hy
  clear hy
  by_cases hl : n = n'
  · subst hl
    go_enter Try.func10, Try.ntmps10
    go_wp2_with fail
    refine wp_region_quiet_below (by kernel_rfl) (by kernel_rfl) ?_
    repeat (first | go_big_quiet_step (fail) | quiet_step (fail))
    refine wpQuiet_nil ?_
    intro w1 hw'
    obtain ⟨⟨dq, osq⟩, hw''⟩ := hw'
    have HB1 : Hid (Below W.heap.size W w1) := by show Below _ _ _; rw [hw'']; exact below_regrown W dq osq
    clear hw'' x0 x1 y0 y1
    go_wp2_with fail
    go_loopw [5] (fun i wr => ∃ k : Nat, k ≤ n ∧ i = .int .i64 k ∧ Hid (Below W.heap.size W wr) ∧ Hid (∀ (j : Nat), j < k → os[j]? = os'[j]?)) (fun i _ => n - (intOf i).toNat)
    case atStart => exact ⟨0, Nat.zero_le _, rfl, HB1, fun j hj => absurd hj (by omega)⟩
    case round =>
      obtain ⟨k, hk, rfl, HW, HV⟩ := hrel
      have s1 : wr.cell? ⟨g, 1, none⟩ = some (.slice A n c) := (HW.out.cell (p := ⟨g, 1, none⟩) HG.out).trans HK.out
      by_cases hlt : k < n
      · have b0 : (0 : Int) ≤ (k : Int) := by omega
        have b1 : (k : Int) < (n : Int) := by omega
        obtain ⟨b, off, o, l, rfl, hb, hx, h1, hv1⟩ := (HA.out.go HW.out).at_ hlt
        obtain ⟨b', off', o', l', rfl, hb', hx', h2, hv2⟩ := (HB.out.go HW.out).at_ hlt
        have HX := Lib.hid hx
        have HX' := Lib.hid hx'
        have H0 := Lib.hid (show PairO wr b b' (off + k * 10) (off' + k * 10) o o' l l' g g' (.slice (some ⟨b, off, none⟩) n c) (.slice (some ⟨b', off', none⟩) n c') wr from ⟨h1, h2, hv1, hv2, Below.refl _ _, hb, hb', s1, (HW.out.cell (p := ⟨g', 1, none⟩) HG'.out).trans HK'.out, Nat.lt_of_lt_of_le HG.out HW.out.size, Nat.lt_of_lt_of_le HG'.out HW.out.size⟩)
        obtain ⟨z, hz⟩ : ∃ z, tt (o = o') = z := ⟨_, rfl⟩
        have HZ := Lib.hid hz
        clear hx hx' h1 h2 hv1 hv2 hb hb' hz
        have HF : Hid (z = false → P = false) := by
          show _ → _
          intro h
          rw [← HP.out]
          refine tt_false fun e => ?_
          have e2 : some o = some o' := by rw [← HX.out, ← HX'.out, e]
          rw [h, Option.some.inj e2] at HZ
          have := HZ.out
          rw [tt_true rfl] at this
          cases this
        have HT : Hid (z = true → ∀ (j : Nat), j < k + 1 → os[j]? = os'[j]?) := by
          show _ → _
          intro h j hj
          by_cases e : j = k
          · rw [h] at HZ
            rw [e, HX.out, HX'.out, of_tt HZ.out]
          · exact HV.out j (by omega)
        cases z
        · have HF1 := Lib.hid (HF.out rfl)
          clear HF HT
          go_wp2_with fail
          go_region_held3 (fun w' => FlatP wr b b' (off + k * 10) (off' + k * 10) o o' l l' g g' (.slice (some ⟨b, off, none⟩) n c) (.slice (some ⟨b', off', none⟩) n c') w')
            (first | exact H0.out.drew.flat | exact (PairO.grow H0.out.drew hb).flat | go_keep)
            ((go_at_call 16; have HS := H0.out.drew; have HQ := l07SameObject_any o o' l l' _ HS.2.2.1 HS.2.2.2.1; refine Calls.mono HQ ?_; clear HQ; rintro e w1 ⟨rfl, hb⟩; rw [HZ.out]))
          go_wp2_with fail
          go_split_ands
          have h2 : PairO wr b b' (off + k * 10) (off' + k * 10) o o' l l' g g' (.slice (some ⟨b, off, none⟩) n c) (.slice (some ⟨b', off', none⟩) n c') _ := ‹_›
          go_ret
          exact ⟨by rw [HF1.out]; rfl, HW.out.trans (h2.2.2.2.2.1.mono HW.out.size)⟩
        · have HT1 := Lib.hid (HT.out rfl)
          clear HF HT
          go_wp2_with fail
          go_region_held3 (fun w' => FlatP wr b b' (off + k * 10) (off' + k * 10) o o' l l' g g' (.slice (some ⟨b, off, none⟩) n c) (.slice (some ⟨b', off', none⟩) n c') w')
            (first | exact H0.out.drew.flat | exact (PairO.grow H0.out.drew hb).flat | go_keep)
            ((go_at_call 16; have HS := H0.out.drew; have HQ := l07SameObject_any o o' l l' _ HS.2.2.1 HS.2.2.2.1; refine Calls.mono HQ ?_; clear HQ; rintro e w1 ⟨rfl, hb⟩; rw [HZ.out]))
          go_wp2_with fail
          go_split_ands
          have h2 : PairO wr b b' (off + k * 10) (off' + k * 10) o o' l l' g g' (.slice (some ⟨b, off, none⟩) n c) (.slice (some ⟨b', off', none⟩) n c') _ := ‹_›
          go_roundw
          case rel => exact ⟨k + 1, by omega, by go_num, HW.out.trans (h2.2.2.2.2.1.mono HW.out.size), HT1⟩
          case measure => simp [intOf]; omega
      · have hkn : k = n := by omega
        have HT : Hid (P = true) := by
          show _ = _
          rw [← HP.out]
          refine tt_true (List.ext_getElem? fun j => ?_)
          by_cases e : j < n
          · exact HV.out j (by omega)
          · rw [List.getElem?_eq_none (by have := HN.out; omega), List.getElem?_eq_none (by have := HN'.out; omega)]
        go_wp2_with fail
        go_ret
        exact ⟨by rw [HT.out]; rfl, HW.out⟩
  · have HF : Hid (P = false) := by
      show _ = _
      rw [← HP.out]
      exact tt_false fun e => hl (by rw [← HN.out, ← HN'.out, e])
    have hne : ¬ (n : Int) = (n' : Int) := by omega
    go_enter Try.func10, Try.ntmps10
    go_wp2_with fail
    refine wp_region_quiet_below (by kernel_rfl) (by kernel_rfl) ?_
    repeat (first | go_big_quiet_step (fail) | quiet_step (fail))
    refine wpQuiet_nil ?_
    intro w1 hw'
    obtain ⟨⟨dq, osq⟩, hw''⟩ := hw'
    have HB1 : Hid (Below W.heap.size W w1) := by show Below _ _ _; rw [hw'']; exact below_regrown W dq osq
    clear hw'' x0 x1 y0 y1
    go_wp2_with fail
    go_ret
    exact ⟨by rw [HF.out]; rfl, HB1.out⟩

set_option maxRecDepth 100000 in
theorem spec_SameHeap_any (nx nx' : Int) (A A' : Option Addr) (n n' c c' : Nat) (os os' : List Ob) (W : World) (ha : OI W W.heap.size A n os) (hb : OI W W.heap.size A' n' os') :
    Calls Try.prog 5 #[.agg #[.int .i64 nx, .slice A n c], .agg #[.int .i64 nx', .slice A' n' c']] W fun e w' => e = .returned (.bool (tt (nx = nx' ∧ os = os'))) ∧ Below W.heap.size W w' := by
  have HA := Lib.hid ha
  have HB := Lib.hid hb
  have HC := Lib.hid (two_new W 29 #[.int .i64 nx, .slice A n c] #[.int .i64 nx', .slice A' n' c'])
  clear ha hb
  go_enter Try.func5, Try.ntmps5
  go_wp2_with (go_at_call 10; obtain ⟨g0, g1, g2, g3⟩ := HC.out _ rfl; have HQ := l07Same_any W.heap.size (W.heap.size + 1) nx nx' A A' n n' c c' os os' _ (by omega) (by omega) (g0.cell 0) (g0.cell 1) (g1.cell 0) (g1.cell 1) (HA.out.go g2) (HB.out.go g2); refine Calls.mono HQ ?_; clear HQ; rintro e w1 ⟨rfl, hb⟩; have HB1 := Lib.hid (g2.trans (hb.mono g2.size)); clear g0 g1 g2 g3 hb HA)
  all_goals go_ret
  all_goals exact ⟨rfl, HB1.out⟩
end Go.Proofs.Ythbeaffjkjhphaa
