/- Contract: CountNodes of the program. No condition. -/
import Derived.Test.YtbaadphgbhaboaaCoCn
namespace Go.Proofs.Ytbaadphgbhaboaa
open Go Go.RowKit

theorem startC {d : Nat} {x : Pt} {A : Option Addr} {n c : Nat} {W X : World} (hx : PtUV W 0 W.heap.size d x A n) (hnc : n ≤ c) (hz : ptN x ≤ 2000000) (e : X = ((((W.alloc (.cells #[.int .i64 x.k, .int .i64 x.n, .string x.t, .slice A n c] 29)).alloc (.map #[] 0)).alloc (.cells #[.int .i64 x.k, .int .i64 x.n, .string x.t, .slice A n c] 29)).alloc (.cells #[.slice (some ⟨W.heap.size + 1 + 1, 0, none⟩) 1 1, .int .i64 0, .int .i64 0] 89))) :
    ∃ w1 B, InvC w1 B (d + 1) (W.heap.size + 1) x ⟨some ⟨W.heap.size + 1 + 1, 0, none⟩, 1, [x], 0⟩ [] [] false (.slice (some ⟨W.heap.size + 1 + 1 + 1, 0, none⟩) 1 1) X ∧ Below W.heap.size W X ∧ W.heap.size ≤ B := by
  obtain ⟨u1, hu1⟩ : ∃ u, ((W.alloc (.cells #[.int .i64 x.k, .int .i64 x.n, .string x.t, .slice A n c] 29)).alloc (.map #[] 0)) = u := ⟨_, rfl⟩
  have hs1 : u1.heap.size = W.heap.size + 1 + 1 := by rw [← hu1]; simp
  have hb1 : Below W.heap.size W u1 := by rw [← hu1]; exact ((below_alloc _ _).alloc (by simp) _)
  have hm1 : AMap u1 (W.heap.size + 1) [] := by
    have h := AMap.made (W.alloc (.cells #[.int .i64 x.k, .int .i64 x.n, .string x.t, .slice A n c] 29))
    rw [hu1, show (W.alloc (.cells #[.int .i64 x.k, .int .i64 x.n, .string x.t, .slice A n c] 29)).heap.size = W.heap.size + 1 from by simp] at h
    exact h
  rw [hu1] at e
  obtain ⟨w1, hw1⟩ : ∃ w1, u1.alloc (.cells #[.int .i64 x.k, .int .i64 x.n, .string x.t, .slice A n c] 29) = w1 := ⟨_, rfl⟩
  have g0 : RW 29 w1 u1.heap.size #[.int .i64 x.k, .int .i64 x.n, .string x.t, .slice A n c] := by rw [← hw1]; exact RW.new _ _ _
  have g2 : Below u1.heap.size u1 w1 := by rw [← hw1]; exact below_alloc _ _
  have g3 : w1.heap.size = u1.heap.size + 1 := by rw [← hw1]; simp
  rw [hw1] at e
  rw [hs1] at g0
  have hs : w1.heap.size = W.heap.size + 1 + 1 + 1 := by rw [g3, hs1]
  have hbW : Below W.heap.size W w1 := hb1.trans (g2.mono hb1.size)
  have hr : RW 89 X (W.heap.size + 1 + 1 + 1) #[.slice (some ⟨W.heap.size + 1 + 1, 0, none⟩) 1 1, .int .i64 0, .int .i64 0] := by
    rw [e, ← hs]
    exact RW.new _ _ _
  have hbX : Below w1.heap.size w1 X := by rw [e]; exact below_alloc _ _
  have hm2 : AMap w1 (W.heap.size + 1) [] := hm1.below g2 hm1.lt
  refine ⟨w1, w1.heap.size, ⟨⟨hbX.size, fun k hk _ => hbX.block k hk⟩, ?_, trivial, trivial, fun q h => (by cases h), fun e _ => .inl rfl, ⟨hm2.lt, ?_, hm2.below hbX hm2.lt⟩, ⟨rfl, .inr ⟨_, 1, _, rfl, by omega, hr, Nat.le_refl _, by unfold maxLen; omega, rfl, rfl⟩⟩, rfl, hz, fun h => by cases h⟩, hbW.trans (hbX.mono hbW.size), by omega⟩
  · intro q hq
    simp only [List.mem_singleton] at hq
    subst hq
    refine ⟨Nat.one_pos, Nat.zero_le _, ⟨rfl, (show 1 ≤ maxLen by unfold maxLen; omega), fun _ => ⟨_, 0, rfl, Nat.zero_le _, by omega, g0.good, fun j z hj => ?_⟩⟩⟩
    have hj0 : j = 0 := by have := (List.getElem?_eq_some_iff.1 hj).1; simp at this; omega
    subst hj0
    simp only [List.getElem?_cons_zero, Option.some.injEq] at hj
    subst hj
    exact ⟨A, n, c, hnc, ⟨g0.cell 0, g0.cell 1, g0.cell 2, g0.cell 3⟩, hx.1, (hx.2.below hbW).more (Nat.le_refl _) (by omega)⟩
  · rintro ⟨cs, T, h⟩
    obtain ⟨es, clock, h2, _⟩ := hm2
    rw [h] at h2
    cases h2

/-- A list counted to its end: its number is put in the map, and the list that waited for it goes on. -/
theorem next_back {w1 w w' : World} {B d bm : Nat} {p : Pt} {T f : Fm} {R : List Fm} {kvs : List (Value × Value)} {back : Bool} {v v' : Value} (h : InvC w1 B d bm p T (f :: R) kvs back v w) (hfr : FrG w1 B w') (hm : AMap w' bm (setA kvs T.key (.int .i64 ((sN T.l : Nat) : Int))))
    (hr : w'.ownsRow B 89 3 v' (R.length + 1) ((f :: R).reverse.flatMap Fm.vs)) :
    InvC w1 B d bm p f R (setA kvs T.key (.int .i64 ((sN T.l : Nat) : Int))) true v' w' ∧ phi1 f true + phiR R < phi1 T back + phiR (f :: R) := by
  obtain ⟨h1, h2, h3, h4, h5, h6, h7, h8, h9, h10, h11⟩ := h
  have hget := getA_set T.key (.int .i64 ((sN T.l : Nat) : Int)) kvs h4.1
  have hTo := h2 T (by simp)
  have hTe : (⟨T.A, T.l.length, T.l⟩ : Ky).Ok w1 B d := ⟨hTo.1, hTo.2.2⟩
  refine ⟨⟨hfr, fun q hq => h2 q (List.mem_cons_of_mem _ hq), h3.2, fnd_mono (fun k hk => ?_) h4.2, setA_keys _ _ (fun k => ∃ e : Ky, k = e.key ∧ e.Ok w1 B d) ⟨_, rfl, hTe⟩ kvs h5, ?_, ⟨h7.1, h7.2.1, hm⟩, hr, h9, h10, fun _ => ?_⟩, ?_⟩
  · rw [hget]
    split
    · simp
    · exact hk
  · intro e hE
    rw [hget]
    by_cases hk : T.key = e.key
    · have := ky_det hTe hE hk
      dsimp only at this
      rw [tt_true hk, this]
      exact .inr (.inl rfl)
    · rw [tt_false hk]
      rcases h6 e hE with k | k | ⟨q, hq, k⟩
      · exact .inl k
      · exact .inr (.inl k)
      · rcases List.mem_cons.1 hq with rfl | hq
        · exact absurd k hk
        · exact .inr (.inr ⟨q, hq, k⟩)
  · obtain ⟨z, n', c', k1, k2, k3⟩ := h3.1
    refine ⟨z, T.A, n', c', k1, ?_⟩
    have e : keyL T.A n' = T.key := by unfold Fm.key; rw [k3]
    rw [e, hget, tt_true rfl, k2]
    rfl
  · unfold phi1 phiR
    cases back <;> simp <;> omega

set_option maxHeartbeats 4000000 in
set_option maxRecDepth 100000 in
theorem impl_CountNodes_any (d : Nat) (x : Pt) (A : Option Addr) (n c : Nat) (W : World) (hx : PtUV W 0 W.heap.size d x A n) (hnc : n ≤ c) (hz : ptN x ≤ 2000000) :
    Calls Try.prog 15 #[x.ag A n c] W fun e w' => e = .returned (.int .i64 ((ptN x : Nat) : Int)) ∧ Below W.heap.size W w' := by
  have HX := Lib.hid hx
  have HZ := Lib.hid hz
  have HNC := Lib.hid hnc
  clear hx hz hnc
  obtain ⟨E, hE⟩ : ∃ E, ((ptN x : Nat) : Int) = E := ⟨_, rfl⟩
  have HE := Lib.hid hE
  rw [hE]
  clear hE
  have hmm := @run_makeMap Try.prog
  show Calls Try.prog 15 #[.agg #[.int .i64 x.k, .int .i64 x.n, .string x.t, .slice A n c]] W _
  go_enter Try.func15, Try.ntmps15
  go_wp2_with fail
  obtain ⟨w1, B, HI0, HB0, HWB⟩ := startC HX.out HNC.out HZ.out rfl
  have HI0 := Lib.hid HI0
  have HB0 := Lib.hid HB0
  have HWB := Lib.hid HWB
  have HBM : Hid (W.heap.size ≤ W.heap.size + 1) := by show _ ≤ _; omega
  generalize ((((W.alloc (.cells #[.int .i64 x.k, .int .i64 x.n, .string x.t, .slice A n c] 29)).alloc (.map #[] 0)).alloc (.cells #[.int .i64 x.k, .int .i64 x.n, .string x.t, .slice A n c] 29)).alloc (.cells #[.slice (some ⟨W.heap.size + 1 + 1, 0, none⟩) 1 1, .int .i64 0, .int .i64 0] 89)) = w2 at HI0 HB0 ⊢
  clear hmm
  obtain ⟨bm, hbm⟩ : ∃ bm, W.heap.size + 1 = bm := ⟨_, rfl⟩
  rw [hbm] at HI0 HBM
  rw [hbm]
  clear hbm
  go_loopg [4] (3 * ptN x + 1) (fun gk v wr => ∃ (T : Fm) (R : List Fm) (kvs : List (Value × Value)) (back : Bool) (A : Option Addr) (m c : Nat), v = .slice A m c ∧ Hid (m = R.length + 1) ∧ Hid (InvC w1 B (d + 1) bm x T R kvs back (.slice A m c) wr) ∧ Hid (phi1 T back + phiR R ≤ gk) ∧ Hid (Below W.heap.size W wr))
  case atStart => exact ⟨⟨some ⟨bm + 1, 0, none⟩, 1, [x], 0⟩, [], [], false, _, 1, 1, rfl, rfl, HI0, (by show _ ≤ _; simp [phi1, phiR, sN]), HB0⟩
  case round =>
    obtain ⟨gq, hgq⟩ : ∃ gq, gq = gk := ⟨_, rfl⟩
    subst hgq
    obtain ⟨T, R, kvs, back, A0, m, c0, rfl, HM, HI, HP, HBW⟩ := hrel
    clear HI0 HB0
    have hI := HI.out
    have hm := HM.out
    subst hm
    obtain ⟨h1, h2, _, h4, h5, _, h7, h8, _⟩ := hI
    have hT := h2 T (by simp)
    have hl : (R.reverse.flatMap Fm.vs).length = R.length * 3 := by rw [fm_len, List.length_reverse]
    rw [List.reverse_cons, List.flatMap_append] at h8
    have h8' := h8
    simp only [List.flatMap_cons, List.flatMap_nil, List.append_nil, Fm.vs] at h8'
    obtain ⟨g, hA, hgB, ⟨hc1, hc2⟩, v0, v1, v2, _, hpop⟩ := ownsRow_cells h8' hl
    subst hA
    have HPOP := Lib.hid hpop
    have HOK := Lib.hid hT
    have HTM : Hid (T.l.length ≤ maxLen) := hT.2.2.len.2
    obtain ⟨b, o, eA, gb, G1⟩ : ∃ b o, T.A = some ⟨b, o, none⟩ ∧ b < B ∧ Good w1 b := by
      obtain ⟨b, o, _, _, _, _, eA, _, gb, G1, _⟩ := hT.2.2.at_ hT.1
      exact ⟨b, o, eA, gb, G1⟩
    clear h1 h2 h4 h5 h7 h8 h8' hT hl hpop gb G1 hgB
    obtain ⟨k, hk⟩ : ∃ k, R.length = k := ⟨_, rfl⟩
    obtain ⟨tl, htl⟩ : ∃ tl, T.l.length = tl := ⟨_, rfl⟩
    obtain ⟨ti, hti⟩ : ∃ ti, T.i = ti := ⟨_, rfl⟩
    obtain ⟨tt0, htt⟩ : ∃ t, sN (T.l.take T.i) = t := ⟨_, rfl⟩
    have HKK := Lib.hid hk
    have HTL := Lib.hid htl
    have HTE := Lib.hid hti
    have HTT := Lib.hid htt
    rw [htl, eA, hk] at v0
    rw [hti, hk] at v1
    rw [htt, hk] at v2
    rw [hk] at hc1
    have hti1 : ti ≤ tl := by rw [← hti, ← htl]; exact HOK.out.2.1
    have htl0 : 0 < tl := by rw [← htl]; exact HOK.out.1
    have HEA := Lib.hid eA
    rw [hk]
    clear hk htl hti eA htt
    unfold maxLen at hc2
    have hkm : ((k + 1 : Nat) : Int) - 1 = (k : Int) := by omega
    have hk0 : (0 : Int) ≤ (k : Int) := by omega
    have hk1 : (k : Int) < ((k + 1 : Nat) : Int) := by omega
    have hi0 : (0 : Int) ≤ (ti : Int) := by omega
    have hl0 : (0 : Int) < (tl : Int) := by omega
    have HTL2 : Hid (tl ≤ maxLen) := by rw [← HTL.out]; exact HTM.out
    by_cases hlt : ti < tl
    · have HLT : Hid (T.i < T.l.length) := by rw [HTE.out, HTL.out]; exact hlt
      have hlt1 : (ti : Int) < (tl : Int) := by omega
      have HC : Hid (∀ nq, Calls Try.prog 40 #[.slice (some ⟨g, 0, none⟩) (k + 1) c0, .map (some bm)] (wr.drewN nq) fun e w' => NextC W w1 B (d + 1) bm x (phi1 T back + phiR R) e w') := fun nq => by
        have hb := drewN_below wr nq
        have hm := HKK.out
        subst hm
        exact countNext_any W (wr.drewN nq) (HI.out.below hb) rfl HLT.out (HBW.out.trans (hb.mono HBW.out.size)) HWB.out HBM.out
      go_wp2_with fail
      go_quiet (fail)
      go_wp2_with (go_at_call 40; refine Calls.mono (HC.out _) ?_; rintro e w5 ⟨T', R', kvs', A', m', c', rfl, HN⟩)
      go_roundg (phi1 T' false + phiR R')
      case measure => exact Nat.lt_of_lt_of_le HN.out.2.2.1 HP.out
      case rel => exact ⟨T', R', kvs', false, A', m', c', rfl, HN.out.1, HN.out.2.1, Nat.le_refl _, HN.out.2.2.2⟩
    · have hnl : ¬ (ti : Int) < (tl : Int) := by omega
      have HTI : Hid (ti = tl) := by show _ = _; omega
      go_wp2_with fail
      go_quiet (fail)
      rename_i nq
      have HBD : Hid (Below wr.heap.size wr (wr.drewN nq)) := drewN_below wr nq
      have d0 : (wr.drewN nq).cell? ⟨g, k * 3, none⟩ = some (.slice (some ⟨b, o, none⟩) tl T.c) := v0
      have d2 : (wr.drewN nq).cell? ⟨g, k * 3 + 2, none⟩ = some (.int .i64 (tt0 : Int)) := v2
      clear v0 v1 v2
      have HIB : Hid (∀ u, Below wr.heap.size wr u → InvC w1 B (d + 1) bm x T R kvs back (.slice (some ⟨g, 0, none⟩) (R.length + 1) c0) u) := fun u hu => HI.out.below hu
      generalize wr.drewN nq = wd at HBD d0 d2 ⊢
      have HST : Hid (sN T.l = tt0) := by
        rw [← HTT.out, HTE.out, HTI.out, ← HTL.out, List.take_length]
        exact rfl
      cases R with
      | nil =>
        have hk00 : k = 0 := HKK.out.symm
        subst hk00
        go_wp2_with fail
        go_ret
        refine ⟨?_, HBW.out.trans (HBD.out.mono HBW.out.size)⟩
        have hr : T.l = [x] := HI.out.2.2.2.2.2.2.2.2.1
        have e : sN [x] = ptN x := by simp [sN]
        rw [← HE.out, ← HST.out, hr, e]
        first | done | rfl
      | cons f R =>
        have hkk : R.length + 1 = k := HKK.out
        have HKK' := Lib.hid hkk
        have hkne : ((k : Int) == 0) = false := by simp; omega
        have hbd : Below wd.heap.size wd wd.drew := drewN_below wd 1
        have HBDD : Hid (Below wr.heap.size wr wd.drew) := HBD.out.trans (hbd.mono HBD.out.size)
        have HI2 : Hid (InvC w1 B (d + 1) bm x T (f :: R) kvs back (.slice (some ⟨g, 0, none⟩) ((f :: R).length + 1) c0) wd.drew) := HIB.out _ HBDD.out
        have hke : (⟨T.A, T.l.length, T.l⟩ : Ky).Ok w1 B (d + 1) := ⟨HOK.out.1, HOK.out.2.2⟩
        obtain ⟨u0, hu0⟩ := Option.ne_none_iff_exists'.1 HI2.out.2.2.2.1.1
        obtain ⟨w4, hput, u1, u2, u3⟩ := setC HI2.out.2.2.2.2.2.2.1.2.2 HI2.out.2.2.2.2.1 HI2.out.1 hke (v0 := u0) hu0 (.int .i64 ((sN T.l : Nat) : Int))
        have HU1 : Hid (AMap w4 bm (setA kvs T.key (.int .i64 ((sN T.l : Nat) : Int)))) := u1
        have HU2 := Lib.hid u2
        rw [HST.out] at hput
        simp only [Ky.key, keyL] at hput
        rw [HEA.out, HTL.out] at hput
        have hkc : (k : Int) ≤ (c0 : Int) := by omega
        have hkp : 0 < k := by omega
        clear u1 u2 u3 hu0 hke hbd hkk
        go_upto_region 9 with fail
        go_still_tail 16, (by kernel_rfl)
        change wpList _ _ _ _ _ wd.drew
        have d0' : wd.drew.cell? ⟨g, k * 3, none⟩ = some (.slice (some ⟨b, o, none⟩) tl T.c) := d0
        have d2' : wd.drew.cell? ⟨g, k * 3 + 2, none⟩ = some (.int .i64 (tt0 : Int)) := d2
        clear d0 d2
        generalize wd.drew = we at HBDD HI2 hput HU2 d0' d2' ⊢
        have HRW : Hid (w4.ownsRow B 89 3 (.slice (some ⟨g, 0, none⟩) k c0) (R.length + 1) ((f :: R).reverse.flatMap Fm.vs)) := by
          have h := HPOP.out
          rw [List.length_cons, HKK'.out] at h
          show w4.ownsRow _ _ _ _ _ _
          rw [HKK'.out]
          have h1 := ncRow_lt HI.out.2.2.2.2.2.2.2.1 (g := g) rfl
          obtain ⟨q0, q1 | ⟨g', cap, cur, q1, q2, q3, q4⟩⟩ := h
          · exact ⟨q0, .inl q1⟩
          · refine ⟨q0, .inr ⟨g', cap, cur, q1, q2, ?_, q4⟩⟩
            exact (HU2.out.block g' (Nat.lt_of_lt_of_le (RW.lt q3) HBDD.out.size) (by have h2 := HI2.out.2.2.2.2.2.2.1.1; simp only [ne_eq, Option.some.injEq]; omega)).trans ((HBDD.out.block g' (RW.lt q3)).trans q3)
        go_wp2_with fail
        have hfr : FrG w1 B w4 := HI2.out.1.grown HU2.out (fun k hk _ => by cases hk; exact HI2.out.2.2.2.2.2.2.1.2.1)
        have hB4 : Below W.heap.size W w4 := (HBW.out.trans (HBDD.out.mono HBW.out.size)).grown HU2.out (Nat.le_trans HBW.out.size HBDD.out.size) (fun k hk => by cases hk; exact HBM.out)
        obtain ⟨j1, j2⟩ := next_back HI2.out hfr HU1.out HRW.out
        go_roundg (phi1 f true + phiR R)
        case measure => exact Nat.lt_of_lt_of_le j2 HP.out
        case rel => exact ⟨f, R, _, true, _, _, _, rfl, HKK'.out.symm, j1, Nat.le_refl _, hB4⟩
end Go.Proofs.Ytbaadphgbhaboaa
