/- Contract: SamePattern of the program. No condition. -/
import Derived.Test.YtbaadphgbhaboaaPtSmN
import Derived.Deep.LoopGhost
import Derived.Deep.RegionHeld3
import Derived.Maps.OwnOps
import Derived.Deep.Cut
import Derived.Deep.CutRange
import Derived.Deep.CutBlock
import Derived.Maps.AppendAt
namespace Go.Proofs.Ytbaadphgbhaboaa
open Go Go.RowKit

theorem PtAt.fr {w1 w : World} {B b p : Nat} {x : Pt} {A : Option Addr} {n c : Nat} (h : PtAt w1 b p x A n c) (hf : FrG w1 B w) (hb : b < B) (hG : Good w1 b) : PtAt w b p x A n c := by
  have k : ∀ i, w.cell? ⟨b, i, none⟩ = w1.cell? ⟨b, i, none⟩ := fun i => World.cell?_of_block (hf.2 b hb hG)
  exact ⟨(k _).trans h.1, (k _).trans h.2.1, (k _).trans h.2.2.1, (k _).trans h.2.2.2⟩
/-- What holds at the loop's head: S waits (in the row at v), M was compared (the map in block bm); at most g nodes are still to come. -/
def InvP (w1 : World) (B d N bm : Nat) (a b : Pt) (g : Nat) (S : List Ls) (M : List Me) (C : List (Pt × Pt)) (v : Value) (w : World) : Prop :=
  FrG w1 B w ∧ (∀ q ∈ S, q.Ok w1 B d) ∧ (∀ q ∈ M, q.Ok w1 B d ∧ (q.x, q.y) ∈ C) ∧ (bm < B ∧ AMap w bm (entsP M)) ∧ w.ownsRow B 81 2 v S.length (S.flatMap Ls.vs) ∧ Wl Pt.kids Pt.hd a b C (S.flatMap Ls.t) ∧ wlN ptN (S.flatMap Ls.t) ≤ g ∧ g ≤ N
theorem ptRow_below {w w' : World} {base T s n : Nat} {v : Value} {xs : List Value} (h : w.ownsRow base T s v n xs) (hb : Below w.heap.size w w') : w'.ownsRow base T s v n xs := by
  obtain ⟨h0, h1 | ⟨g, cap, cur, h1, h2, h3, h4⟩⟩ := h
  · exact ⟨h0, .inl h1⟩
  · exact ⟨h0, .inr ⟨g, cap, cur, h1, h2, (hb.block g (RW.lt h3)).trans h3, h4⟩⟩
theorem ptRow_lt {w : World} {base T s n : Nat} {v : Value} {xs : List Value} (h : w.ownsRow base T s v n xs) {g : Nat} (hg : v.ownBlock = some g) : base ≤ g ∧ g < w.heap.size ∧ ∃ cs, RW T w g cs := by
  obtain ⟨h0, h1 | ⟨g', cap, cur, h1, h2, h3, h4⟩⟩ := h
  · rw [h1.1] at hg; cases hg
  · rw [h1] at hg
    simp only [Value.ownBlock, Option.some.injEq] at hg
    subst hg
    exact ⟨h2, RW.lt h3, cur, h3⟩
theorem startP {d : Nat} {x y : Pt} {A A' : Option Addr} {n n' c c' : Nat} {W X : World} (hx : PtUV W 0 W.heap.size d x A n) (hy : PtUV W 0 W.heap.size d y A' n') (hnc : n ≤ c) (hnc' : n' ≤ c') (hz : ptN x ≤ 2000000)
    (e : X = (((((W.alloc (.cells #[.int .i64 x.k, .int .i64 x.n, .string x.t, .slice A n c] 29)).alloc (.cells #[.int .i64 y.k, .int .i64 y.n, .string y.t, .slice A' n' c'] 29)).alloc (.map #[] 0)).alloc
      (.cells #[.int .i64 x.k, .int .i64 x.n, .string x.t, .slice A n c] 29)).alloc (.cells #[.int .i64 y.k, .int .i64 y.n, .string y.t, .slice A' n' c'] 29)).alloc
      (.cells #[.slice (some ⟨W.heap.size + 1 + 1 + 1, 0, none⟩) 1 1, .slice (some ⟨W.heap.size + 1 + 1 + 1 + 1, 0, none⟩) 1 1] 81)) :
    ∃ w1 B, InvP w1 B (d + 1) 2000000 (W.heap.size + 1 + 1) x y (ptN x) [⟨some ⟨W.heap.size + 1 + 1 + 1, 0, none⟩, 1, [x], some ⟨W.heap.size + 1 + 1 + 1 + 1, 0, none⟩, 1, [y]⟩] [] [] (.slice (some ⟨W.heap.size + 1 + 1 + 1 + 1 + 1, 0, none⟩) 1 1) X ∧ Below W.heap.size W X ∧ ¬ Good w1 (W.heap.size + 1 + 1) ∧ W.heap.size ≤ B := by
  obtain ⟨u1, hu1⟩ : ∃ u, ((W.alloc (.cells #[.int .i64 x.k, .int .i64 x.n, .string x.t, .slice A n c] 29)).alloc (.cells #[.int .i64 y.k, .int .i64 y.n, .string y.t, .slice A' n' c'] 29)).alloc (.map #[] 0) = u := ⟨_, rfl⟩
  have hs1 : u1.heap.size = W.heap.size + 1 + 1 + 1 := by rw [← hu1]; simp
  have hb1 : Below W.heap.size W u1 := by rw [← hu1]; exact (((below_alloc _ _).alloc (by simp) _).alloc (by simp; omega) _)
  have hm1 : AMap u1 (W.heap.size + 1 + 1) [] := by
    have h := AMap.made ((W.alloc (.cells #[.int .i64 x.k, .int .i64 x.n, .string x.t, .slice A n c] 29)).alloc (.cells #[.int .i64 y.k, .int .i64 y.n, .string y.t, .slice A' n' c'] 29))
    rw [hu1, show ((W.alloc (.cells #[.int .i64 x.k, .int .i64 x.n, .string x.t, .slice A n c] 29)).alloc (.cells #[.int .i64 y.k, .int .i64 y.n, .string y.t, .slice A' n' c'] 29)).heap.size = W.heap.size + 1 + 1 from by simp] at h
    exact h
  rw [hu1] at e
  obtain ⟨w1, hw1⟩ : ∃ w1, (u1.alloc (.cells #[.int .i64 x.k, .int .i64 x.n, .string x.t, .slice A n c] 29)).alloc (.cells #[.int .i64 y.k, .int .i64 y.n, .string y.t, .slice A' n' c'] 29) = w1 := ⟨_, rfl⟩
  obtain ⟨g0, g1, g2, g3⟩ := two_new u1 _ _ _ w1 hw1.symm
  rw [hw1] at e
  rw [hs1] at g0 g1
  have hs : w1.heap.size = W.heap.size + 1 + 1 + 1 + 1 + 1 := by rw [g3, hs1]
  have hbW : Below W.heap.size W w1 := hb1.trans (g2.mono hb1.size)
  have hr : RW 81 X (W.heap.size + 1 + 1 + 1 + 1 + 1) #[.slice (some ⟨W.heap.size + 1 + 1 + 1, 0, none⟩) 1 1, .slice (some ⟨W.heap.size + 1 + 1 + 1 + 1, 0, none⟩) 1 1] := by
    rw [e, ← hs]
    exact RW.new _ _ _
  have hbX : Below w1.heap.size w1 X := by rw [e]; exact below_alloc _ _
  have hm2 : AMap w1 (W.heap.size + 1 + 1) [] := hm1.below g2 hm1.lt
  refine ⟨w1, w1.heap.size, ⟨⟨hbX.size, fun k hk _ => hbX.block k hk⟩, ?_, fun q h => (by cases h), ⟨hm2.lt, hm2.below hbX hm2.lt⟩, ⟨rfl, .inr ⟨_, 1, _, rfl, by omega, hr, Nat.le_refl _, by unfold maxLen; omega, rfl, rfl⟩⟩, ?_, ?_, hz⟩, hbW.trans (hbX.mono hbW.size), ?_, by omega⟩
  · intro q hq
    simp only [List.mem_singleton] at hq
    subst hq
    refine ⟨rfl, Nat.one_pos, ⟨rfl, (show 1 ≤ maxLen by unfold maxLen; omega), fun _ => ⟨_, 0, rfl, Nat.zero_le _, by omega, g0.good, fun j z hj => ?_⟩⟩, rfl, (show 1 ≤ maxLen by unfold maxLen; omega), fun _ => ⟨_, 0, rfl, Nat.zero_le _, by omega, g1.good, fun j z hj => ?_⟩⟩
    · have hj0 : j = 0 := by have := (List.getElem?_eq_some_iff.1 hj).1; simp at this; omega
      subst hj0
      simp only [List.getElem?_cons_zero, Option.some.injEq] at hj
      subst hj
      exact ⟨A, n, c, hnc, ⟨g0.cell 0, g0.cell 1, g0.cell 2, g0.cell 3⟩, hx.1, (hx.2.below hbW).more (Nat.le_refl _) (by omega)⟩
    · have hj0 : j = 0 := by have := (List.getElem?_eq_some_iff.1 hj).1; simp at this; omega
      subst hj0
      simp only [List.getElem?_cons_zero, Option.some.injEq] at hj
      subst hj
      exact ⟨A', n', c', hnc', ⟨g1.cell 0, g1.cell 1, g1.cell 2, g1.cell 3⟩, hy.1, (hy.2.below hbW).more (Nat.le_refl _) (by omega)⟩
  · exact Wl.start x y
  · simp [wlN, Ls.t]
  · rintro ⟨cs, T, h⟩
    obtain ⟨es, clock, h2, _⟩ := hm2
    rw [h] at h2
    cases h2

/-- The last lists that wait, in their row. -/
theorem popP {w : World} {B : Nat} {T : TypeId} {A : Option Addr} {c : Nat} {S : List Ls} {q : Ls} (h : w.ownsRow B T 2 (.slice A (S ++ [q]).length c) (S ++ [q]).length ((S ++ [q]).flatMap Ls.vs)) :
    ∃ g, A = some ⟨g, 0, none⟩ ∧ (S.length + 1 ≤ c ∧ c ≤ maxLen) ∧ w.cell? ⟨g, S.length * 2, none⟩ = some (.slice q.A q.l.length q.c) ∧ w.cell? ⟨g, S.length * 2 + 1, none⟩ = some (.slice q.A' q.l.length q.c') ∧
      w.ownsRow B T 2 (.slice (some ⟨g, 0, none⟩) S.length c) S.length (S.flatMap Ls.vs) := by
  obtain ⟨h0, h1⟩ := h
  rcases h1 with ⟨_, h1⟩ | ⟨g, cap, cur, h1, h2, h3, h4, h5, h6, h7⟩
  · simp at h1
  · simp only [Value.slice.injEq] at h1
    obtain ⟨rfl, _, rfl⟩ := h1
    have hl := ls_len S
    simp only [List.length_append, List.length_singleton] at h0 h4 h7
    have key : ∀ i v, ((S ++ [q]).flatMap Ls.vs)[i]? = some v → w.cell? ⟨g, i, none⟩ = some v := by
      intro i v hi
      rw [cell_of_row w g i cur T (0, 0) h3, ← Array.getElem?_toList]
      rw [← h7] at hi
      rw [List.getElem?_take] at hi
      split at hi
      · exact hi
      · cases hi
    refine ⟨g, rfl, ⟨h4, h5⟩, key _ _ ?_, key _ _ ?_, hl, .inr ⟨g, c, cur, rfl, h2, h3, by omega, h5, h6, ?_⟩⟩
    · rw [List.flatMap_append, List.getElem?_append_right (by omega), hl]
      simp [Ls.vs]
    · rw [List.flatMap_append, List.getElem?_append_right (by omega), hl]
      simp [Ls.vs]
    · have e : S.flatMap Ls.vs = ((S ++ [q]).flatMap Ls.vs).take (S.length * 2) := by rw [List.flatMap_append, List.take_left' hl]
      rw [e, ← h7, List.take_take]
      congr 1
      omega
/-- How many lists wait is bounded. -/
theorem ls_bound {w : World} {B d : Nat} {S : List Ls} (h : ∀ q ∈ S, q.Ok w B d) : S.length ≤ wlN ptN (S.flatMap Ls.t) := by
  induction S with
  | nil => exact Nat.zero_le _
  | cons a r ih =>
    have h1 := ih fun q hq => h q (by simp [hq])
    obtain ⟨h2, h3, _⟩ := h a (by simp)
    rw [List.flatMap_cons, wlN_append, List.length_cons]
    have h4 := wlN_len (sz := ptN) ptWlOk a.t
    have h5 : a.t.length = a.l.length := by unfold Ls.t; rw [List.length_zip]; omega
    omega

theorem Me.Ok.fr {w1 w : World} {B d : Nat} {q : Me} (h : q.Ok w1 B d) (hf : FrG w1 B w) : q.Ok w B d := ⟨h.1, h.2.1.fr hf, h.2.2.fr hf⟩
/-- What holds within the loop over the lists at hand, q in box rl, ahead of number i. -/
def InnP (w1 : World) (B d N bm : Nat) (a b : Pt) (g rl : Nat) (q : Ls) (i : Nat) (S : List Ls) (M : List Me) (C : List (Pt × Pt)) (v : Value) (w : World) : Prop :=
  FrG w1 B w ∧ (∀ q ∈ S, q.Ok w1 B d) ∧ (∀ q ∈ M, q.Ok w1 B d ∧ (q.x, q.y) ∈ C) ∧ (bm < B ∧ AMap w bm (entsP M)) ∧ w.ownsRow B 81 2 v S.length (S.flatMap Ls.vs) ∧ Wl Pt.kids Pt.hd a b C (q.t.drop i ++ S.flatMap Ls.t) ∧ wlN ptN (q.t.drop i ++ S.flatMap Ls.t) + i ≤ g ∧ g ≤ N ∧
  B ≤ rl ∧ RW 81 w rl #[.slice q.A q.l.length q.c, .slice q.A' q.l.length q.c'] ∧ ∀ k, v.ownBlock = some k → k ≠ rl
theorem InnP.grow {w1 : World} {B d N bm : Nat} {a b : Pt} {g rl : Nat} {q : Ls} {i : Nat} {S : List Ls} {M : List Me} {C : List (Pt × Pt)} {v : Value} {w w' : World} (h : InnP w1 B d N bm a b g rl q i S M C v w) (hb : Below w.heap.size w w') : InnP w1 B d N bm a b g rl q i S M C v w' := by
  obtain ⟨h1, h2, h3, h4, h5, h6, h7, h8, h9, h10, h11⟩ := h
  exact ⟨h1.below hb, h2, h3, ⟨h4.1, h4.2.below hb h4.2.lt⟩, ptRow_below h5 hb, h6, h7, h8, h9, h10.below hb h10.lt, h11⟩
theorem Ls.t_at {q : Ls} {i : Nat} {x y : Pt} (hx : q.l[i]? = some x) (hy : q.r[i]? = some y) : q.t.drop i = (x, y) :: q.t.drop (i + 1) := by
  have h : q.t[i]? = some (x, y) := by
    unfold Ls.t
    rw [List.getElem?_zip_eq_some]
    exact ⟨hx, hy⟩
  obtain ⟨hl, e⟩ := List.getElem?_eq_some_iff.1 h
  rw [List.drop_eq_getElem_cons hl, e]
theorem row_form {w : World} {base T s n : Nat} {v : Value} {xs : List Value} (h : w.ownsRow base T s v n xs) (hn : 0 < n) : ∃ g c, v = .slice (some ⟨g, 0, none⟩) n c := by
  obtain ⟨_, h1 | ⟨g, cap, cur, h1, _⟩⟩ := h
  · omega
  · exact ⟨g, cap, h1⟩
theorem infoLs : (Try.prog.info? 81).map (fun i => (i.zero, i.size, i.bytes)) = some (some (.agg #[.slice none 0 0, .slice none 0 0]), 2, 48) := by kernel_rfl

set_option maxHeartbeats 4000000 in
set_option maxRecDepth 100000 in
theorem impl_SamePattern_any (d : Nat) (x y : Pt) (A A' : Option Addr) (n n' c c' : Nat) (W : World) (hx : PtUV W 0 W.heap.size d x A n) (hy : PtUV W 0 W.heap.size d y A' n') (hnc : n ≤ c) (hnc' : n' ≤ c') (hz : ptN x ≤ 2000000) :
    Calls Try.prog 12 #[x.ag A n c, y.ag A' n' c'] W fun e w' => e = .returned (.bool (tt (x = y))) ∧ Below W.heap.size W w' := by
  have HX := Lib.hid hx
  have HY := Lib.hid hy
  have HZ := Lib.hid hz
  have HNC := Lib.hid hnc
  have HNC' := Lib.hid hnc'
  clear hx hy hz hnc hnc'
  obtain ⟨E, hE⟩ : ∃ E, tt (x = y) = E := ⟨_, rfl⟩
  have HE := Lib.hid hE
  rw [hE]
  clear hE
  have hmm := @run_makeMap Try.prog
  show Calls Try.prog 12 #[.agg #[.int .i64 x.k, .int .i64 x.n, .string x.t, .slice A n c], .agg #[.int .i64 y.k, .int .i64 y.n, .string y.t, .slice A' n' c']] W _
  go_enter Try.func12, Try.ntmps12
  go_wp2_with fail
  obtain ⟨w1, B, HI0, HB0, HG0, HWB⟩ := startP HX.out HY.out HNC.out HNC'.out HZ.out rfl
  have HI0 := Lib.hid HI0
  have HB0 := Lib.hid HB0
  have HG0 := Lib.hid HG0
  have HWB := Lib.hid HWB
  have HBM : Hid (W.heap.size ≤ W.heap.size + 1 + 1) := by show _ ≤ _; omega
  generalize (((((W.alloc (.cells #[.int .i64 x.k, .int .i64 x.n, .string x.t, .slice A n c] 29)).alloc (.cells #[.int .i64 y.k, .int .i64 y.n, .string y.t, .slice A' n' c'] 29)).alloc (.map #[] 0)).alloc (.cells #[.int .i64 x.k, .int .i64 x.n, .string x.t, .slice A n c] 29)).alloc (.cells #[.int .i64 y.k, .int .i64 y.n, .string y.t, .slice A' n' c'] 29)).alloc (.cells #[.slice (some ⟨W.heap.size + 1 + 1 + 1, 0, none⟩) 1 1, .slice (some ⟨W.heap.size + 1 + 1 + 1 + 1, 0, none⟩) 1 1] 81) = w2 at HI0 HB0 ⊢
  clear hmm
  obtain ⟨bm, hbm⟩ : ∃ bm, W.heap.size + 1 + 1 = bm := ⟨_, rfl⟩
  rw [hbm] at HI0 HG0 HBM
  rw [hbm]
  clear hbm
  go_loopg [6] (ptN x) (fun gk v wr => ∃ (S : List Ls) (M : List Me) (C : List (Pt × Pt)) (A : Option Addr) (m c : Nat), v = .slice A m c ∧ Hid (S.length = m) ∧ Hid (InvP w1 B (d + 1) 2000000 bm x y gk S M C (.slice A S.length c) wr) ∧ Hid (Below W.heap.size W wr))
  case atStart => exact ⟨[⟨some ⟨bm + 1, 0, none⟩, 1, [x], some ⟨bm + 1 + 1, 0, none⟩, 1, [y]⟩], [], [], _, 1, 1, rfl, rfl, HI0, HB0⟩
  case round =>
    obtain ⟨wo, hwo⟩ : ∃ wo, wo = wr := ⟨_, rfl⟩
    subst hwo
    obtain ⟨gq, hgq⟩ : ∃ gq, gq = gk := ⟨_, rfl⟩
    subst hgq
    obtain ⟨S, M, C, A0, m, c0, rfl, HM, HI, HBW⟩ := hrel
    rcases List.eq_nil_or_concat S with rfl | ⟨S', q, rfl⟩
    · have hm : m = 0 := HM.out.symm
      subst hm
      have hxy : x = y := HI.out.2.2.2.2.2.1.done ptWlOk
      have HE1 : Hid (E = true) := by show _ = _; rw [← HE.out, tt_true hxy]
      clear hxy
      go_wp2_with fail
      go_ret
      exact ⟨by rw [HE1.out]; first | done | rfl, HBW.out⟩
    · have hI := HI.out
      simp only [List.concat_eq_append] at hI
      obtain ⟨i1, i2, i3, i4, i5, i6, i7, i8⟩ := hI
      obtain ⟨g, hA, ⟨hc1, hc2⟩, hv0, hv1, hown⟩ := popP i5
      subst hA
      obtain ⟨k, hk⟩ : ∃ k, S'.length = k := ⟨_, rfl⟩
      have HOW := Lib.hid hown
      rw [hk] at hc1 hv0 hv1
      have hm : m = k + 1 := by rw [← HM.out, ← hk]; simp
      have HK := Lib.hid hk
      have hmk : (m : Int) - 1 = (k : Int) := by omega
      have hm0 : decide ((0 : Int) < (m : Int)) = true := by simp; omega
      have hmN : 0 < m := by omega
      have hk0 : (0 : Int) ≤ (k : Int) := by omega
      have hkm : (k : Int) < (m : Int) := by omega
      have hkc : (k : Int) ≤ (c0 : Int) := by omega
      unfold maxLen at hc2
      obtain ⟨ql, hql⟩ : ∃ ql, q.l.length = ql := ⟨_, rfl⟩
      have HQL := Lib.hid hql
      obtain ⟨qA, hqA⟩ : ∃ a, q.A = a := ⟨_, rfl⟩
      obtain ⟨qA', hqA'⟩ : ∃ a, q.A' = a := ⟨_, rfl⟩
      have HQA := Lib.hid hqA
      have HQA' := Lib.hid hqA'
      rw [hql, hqA] at hv0
      rw [hql, hqA'] at hv1
      have HQ : Hid (q.Ok w1 B (d + 1)) := i2 q (by simp)
      have hqm : ql ≤ maxLen := by rw [← hql]; exact HQ.out.2.2.1.len.2
      unfold maxLen at hqm
      have HIA : Hid (∀ X, X = wo.alloc (.cells #[.slice qA ql q.c, .slice qA' ql q.c'] 81) → InnP w1 B (d + 1) 2000000 bm x y gq wo.heap.size q 0 S' M C (.slice (some ⟨g, 0, none⟩) S'.length c0) X ∧ Below W.heap.size W X ∧ RW 81 X wo.heap.size #[.slice qA ql q.c, .slice qA' ql q.c']) := by
        rintro X rfl
        have hb := below_alloc wo (.cells #[.slice qA ql q.c, .slice qA' ql q.c'] 81)
        have hr := RW.new wo #[.slice qA ql q.c, .slice qA' ql q.c'] 81
        refine ⟨⟨i1.below hb, fun r hr => i2 r (by simp [hr]), i3, ⟨i4.1, i4.2.below hb i4.2.lt⟩, ptRow_below hown hb, ?_, ?_, i8, i1.1, by rw [hql, hqA, hqA']; exact hr, ?_⟩, HBW.out.trans (hb.mono HBW.out.size), hr⟩
        · rw [List.drop_zero]
          refine i6.congr fun p => ?_
          simp only [List.flatMap_append, List.mem_append, List.flatMap_cons, List.flatMap_nil, List.append_nil]
          exact Or.comm
        · rw [List.drop_zero, wlN_append]
          rw [List.flatMap_append, wlN_append] at i7
          simp only [List.flatMap_cons, List.flatMap_nil, List.append_nil] at i7
          omega
        · intro k' hk' e
          have := (ptRow_lt hown hk').2.1
          omega
      clear i1 i2 i3 i4 i5 i6 i7 i8 hown HI HM hk hm hc1 hql hqA hqA'
      go_upto_region 7 with fail
      obtain ⟨HN0, HBA, HRL⟩ := HIA.out _ rfl
      have HN0 := Lib.hid HN0
      have HBA := Lib.hid HBA
      have l0 := HRL.cell 0
      clear HIA hv0 hv1 HRL
      generalize wo.alloc (.cells #[.slice qA ql q.c, .slice qA' ql q.c'] 81) = wa at HN0 HBA l0 ⊢
      go_wp2_with fail
      go_loopg [6, 36] ql (fun gi v i wq => ∃ (j : Nat) (S : List Ls) (M : List Me) (C : List (Pt × Pt)) (A3 : Option Addr) (m3 c3 : Nat), j + gi = ql ∧ i = .int .i64 j ∧ v = .slice A3 m3 c3 ∧ Hid (S.length = m3) ∧ Hid (InnP w1 B (d + 1) 2000000 bm x y gq wo.heap.size q j S M C (.slice A3 S.length c3) wq) ∧ Hid (Below W.heap.size W wq))
      case atStart => exact ⟨0, S', M, C, some ⟨g, 0, none⟩, k, c0, Nat.zero_add _, rfl, rfl, HK, HN0, HBA⟩
      case round =>
        clear HN0 HBA l0
        obtain ⟨j, S, M, C, A3, m3, c3, hj, rfl, rfl, HM3, HN, HBR⟩ := hrel
        by_cases hlt : j < ql
        · have HL := Lib.hid hlt
          have HJG := Lib.hid hj
          have j0 : (0 : Int) ≤ (j : Int) := by omega
          have j1 : (j : Int) < (ql : Int) := by omega
          have wk : wrap64 ((j : Int) + 1) = (j : Int) + 1 := by unfold wrap64; omega
          obtain ⟨b1, o1, z, A1, n1, c1, eA, _, gb1, G1, hz, hnc1, at1, sz1, k1⟩ := HQ.out.2.2.1.at_ (show j < q.l.length by rw [HQL.out]; exact hlt)
          obtain ⟨b2, o2, u, A2, n2, c2, eA', _, gb2, G2, hu, hnc2, at2, sz2, k2⟩ := HQ.out.2.2.2.at_ (show j < q.l.length by rw [HQL.out]; exact hlt)
          have eA2 : qA = some ⟨b1, o1, none⟩ := HQA.out.symm.trans eA
          have eA3 : qA' = some ⟨b2, o2, none⟩ := HQA'.out.symm.trans eA'
          subst eA2 eA3
          obtain ⟨p0, p1, p2, p3⟩ := at1.fr HN.out.1 gb1 G1
          have at2r := at2.fr HN.out.1 gb2 G2
          have hb2 : b2 < wr.heap.size := Nat.lt_of_lt_of_le gb2 HN.out.1.1
          have r0 : ∀ o, (wr.alloc o).cell? ⟨b2, o2 + j * 4, none⟩ = some (.int .i64 u.k) := fun o => (at2r.below (below_alloc wr o) hb2).1
          have r1 : ∀ o, (wr.alloc o).cell? ⟨b2, o2 + j * 4 + 1, none⟩ = some (.int .i64 u.n) := fun o => (at2r.below (below_alloc wr o) hb2).2.1
          have r2 : ∀ o, (wr.alloc o).cell? ⟨b2, o2 + j * 4 + 2, none⟩ = some (.string u.t) := fun o => (at2r.below (below_alloc wr o) hb2).2.2.1
          have r3 : ∀ o, (wr.alloc o).cell? ⟨b2, o2 + j * 4 + 3, none⟩ = some (.slice A2 n2 c2) := fun o => (at2r.below (below_alloc wr o) hb2).2.2.2
          have hRL := HN.out.2.2.2.2.2.2.2.2.2.1
          rw [HQL.out, HQA.out, HQA'.out] at hRL
          have l1 : ∀ o, (wr.alloc o).cell? ⟨wo.heap.size, 1, none⟩ = some (.slice (some ⟨b2, o2, none⟩) ql q.c') := fun o => (hRL.alloc o).cell 1
          have HZU : Hid (q.t.drop j = (z, u) :: q.t.drop (j + 1)) := Ls.t_at hz hu
          have HK1 : Hid (z.kids.length = n1) := k1.len.1
          have HK2 : Hid (u.kids.length = n2) := k2.len.1
          have HKK : Hid (PtU w1 0 B (d + 1) A1 n1 z.kids ∧ PtU w1 0 B (d + 1) A2 n2 u.kids ∧ n1 ≤ c1 ∧ n2 ≤ c2) := ⟨k1.deeper, k2.deeper, hnc1, hnc2⟩
          have HNX := Lib.hid (fun (X : World) (e : X = (wr.alloc (.cells #[.int .i64 z.k, .int .i64 z.n, .string z.t, .slice A1 n1 c1] 29)).alloc (.cells #[.int .i64 u.k, .int .i64 u.n, .string u.t, .slice A2 n2 c2] 29)) => (show RW 29 X wr.heap.size #[.int .i64 z.k, .int .i64 z.n, .string z.t, .slice A1 n1 c1] ∧ RW 29 X (wr.heap.size + 1) #[.int .i64 u.k, .int .i64 u.n, .string u.t, .slice A2 n2 c2] ∧ InnP w1 B (d + 1) 2000000 bm x y gq wo.heap.size q j S M C (.slice A3 S.length c3) X ∧ Below W.heap.size W X from by
            obtain ⟨g0, g1, g2, g3⟩ := two_new wr _ _ _ X e
            exact ⟨g0, g1, HN.out.grow g2, HBR.out.trans (g2.mono HBR.out.size)⟩))
          clear at1 at2 at2r sz1 sz2 k1 k2 gb1 gb2 G1 G2 eA eA' hz hu hRL hb2 hnc1 hnc2
          obtain ⟨P, hP⟩ : ∃ P, tt (z.hd u) = P := ⟨_, rfl⟩
          have HP := Lib.hid hP
          clear hP
          go_upto_region 11 with fail
          obtain ⟨hxb, hyb, hn3, hb3⟩ := HNX.out _ rfl
          have HXB := Lib.hid hxb
          have HYB := Lib.hid hyb
          have HN3 := Lib.hid hn3
          have HB3 := Lib.hid hb3
          have e0 := hxb.cell 0
          have e1 := hxb.cell 1
          have e2 := hxb.cell 2
          have e3 := hxb.cell 3
          have f0 := hyb.cell 0
          have f1 := hyb.cell 1
          have f2 := hyb.cell 2
          have f3 := hyb.cell 3
          clear hxb hyb hn3 hb3 HNX p0 p1 p2 p3 r0 r1 r2 r3 l1
          generalize (wr.alloc (.cells #[.int .i64 z.k, .int .i64 z.n, .string z.t, .slice A1 n1 c1] 29)).alloc (.cells #[.int .i64 u.k, .int .i64 u.n, .string u.t, .slice A2 n2 c2] 29) = w3 at HXB HYB HN3 HB3 e0 e1 e2 e3 f0 f1 f2 f3 ⊢
          cases P
          · go_wp2_with (go_at_call 38; refine Calls.mono (sameFields_any z u A1 A2 n1 n2 c1 c2 _ HK1.out HK2.out) ?_; rintro e w4 ⟨rfl, hb⟩; rw [HP.out]; have HN4 := Lib.hid (HN3.out.grow hb); have HX4 := Lib.hid (HXB.out.below hb HXB.out.lt); have HY4 := Lib.hid (HYB.out.below hb HYB.out.lt); have HB4 := Lib.hid (HB3.out.trans (hb.mono HB3.out.size)); have x3 := HX4.out.cell 3; have y3 := HY4.out.cell 3; clear hb e0 e1 e2 e3 f0 f1 f2 f3 HN3 HXB HYB)
            go_ret
            have hne : E = false := by
              rw [← HE.out]
              have h := HN4.out.2.2.2.2.2.1
              rw [HZU.out, List.cons_append] at h
              exact tt_false (h.no1 ptWlOk (of_tt_false HP.out))
            exact ⟨by rw [hne]; first | done | rfl, HB4.out⟩
          · have HHD := Lib.hid (of_tt HP.out)
            have hn12 : n2 = n1 := by rw [← HK1.out, ← HK2.out, HHD.out.2.2.2]
            subst hn12
            by_cases h0 : n2 = 0
            · subst h0
              go_wp2_with (go_at_call 38; refine Calls.mono (sameFields_any z u A1 A2 0 0 c1 c2 _ HK1.out HK2.out) ?_; rintro e w4 ⟨rfl, hb⟩; rw [HP.out]; have HN4 := Lib.hid (HN3.out.grow hb); have HX4 := Lib.hid (HXB.out.below hb HXB.out.lt); have HY4 := Lib.hid (HYB.out.below hb HYB.out.lt); have HB4 := Lib.hid (HB3.out.trans (hb.mono HB3.out.size)); have x3 := HX4.out.cell 3; have y3 := HY4.out.cell 3; clear hb e0 e1 e2 e3 f0 f1 f2 f3 HN3 HXB HYB)
              go_roundg (gk - 1)
              case rel =>
                have hI := HN4.out
                have hW := hI.2.2.2.2.2.1
                have hL := hI.2.2.2.2.2.2.1
                rw [HZU.out, List.cons_append] at hW hL
                refine ⟨j + 1, S, M, C, A3, m3, c3, (by have := HJG.out; have := HL.out; omega), by go_num, rfl, HM3, ⟨hI.1, hI.2.1, hI.2.2.1, hI.2.2.2.1, hI.2.2.2.2.1, hW.leaf1 ptWlOk HHD.out (List.eq_nil_of_length_eq_zero HK1.out), ?_, hI.2.2.2.2.2.2.2⟩, HB4⟩
                rw [show (z, u) :: (q.t.drop (j + 1) ++ S.flatMap Ls.t) = [(z, u)] ++ (q.t.drop (j + 1) ++ S.flatMap Ls.t) from rfl, wlN_append] at hL
                have := ptWlOk.pos z
                simp only [wlN, List.map_cons, List.map_nil, List.sum_cons, List.sum_nil] at hL ⊢
                omega
              case measure => have := HJG.out; have := HL.out; omega
            · have hn0 : ((n2 : Int) == 0) = false := by simp; omega
              obtain ⟨b3, o3, hA1⟩ : ∃ b3 o3, A1 = some ⟨b3, o3, none⟩ := by
                obtain ⟨b3, o3, _, _, _, _, e, _⟩ := HKK.out.1.at_ (show 0 < n2 by omega)
                exact ⟨b3, o3, e⟩
              obtain ⟨b4, o4, hA2⟩ : ∃ b4 o4, A2 = some ⟨b4, o4, none⟩ := by
                obtain ⟨b4, o4, _, _, _, _, e, _⟩ := HKK.out.2.1.at_ (show 0 < n2 by omega)
                exact ⟨b4, o4, e⟩
              subst hA1 hA2
              have hpos : (0 : Int) < (n2 : Int) := by omega
              have hposN : 0 < n2 := by omega
              go_wp2_with (go_at_call 38; refine Calls.mono (sameFields_any z u _ _ n2 n2 c1 c2 _ HK1.out HK2.out) ?_; rintro e w4 ⟨rfl, hb⟩; rw [HP.out]; have HN4 := Lib.hid (HN3.out.grow hb); have HX4 := Lib.hid (HXB.out.below hb HXB.out.lt); have HY4 := Lib.hid (HYB.out.below hb HYB.out.lt); have HB4 := Lib.hid (HB3.out.trans (hb.mono HB3.out.size)); have x3 := HX4.out.cell 3; have y3 := HY4.out.cell 3; clear hb e0 e1 e2 e3 f0 f1 f2 f3 HN3 HXB HYB)
              have X4 : Hid (∀ o, (w4.drew.alloc o).cell? ⟨wr.heap.size, 3, none⟩ = some (.slice (some ⟨b3, o3, none⟩) n2 c1) ∧ (w4.drew.alloc o).cell? ⟨wr.heap.size + 1, 3, none⟩ = some (.slice (some ⟨b4, o4, none⟩) n2 c2)) := fun o => ⟨((show RW 29 w4.drew wr.heap.size _ from HX4.out).alloc o).cell 3, ((show RW 29 w4.drew (wr.heap.size + 1) _ from HY4.out).alloc o).cell 3⟩
              have Y4 : Hid (∀ o, (w4.alloc o).drew.cell? ⟨wr.heap.size, 3, none⟩ = some (.slice (some ⟨b3, o3, none⟩) n2 c1) ∧ (w4.alloc o).drew.cell? ⟨wr.heap.size + 1, 3, none⟩ = some (.slice (some ⟨b4, o4, none⟩) n2 c2)) := X4
              go_region_held3 (fun w' => w'.cell? ⟨wr.heap.size, 3, none⟩ = some (.slice (some ⟨b3, o3, none⟩) n2 c1) ∧ w'.cell? ⟨wr.heap.size + 1, 3, none⟩ = some (.slice (some ⟨b4, o4, none⟩) n2 c2))
                (first | (with_reducible exact ⟨x3, y3⟩) | (with_reducible exact X4.out _) | (with_reducible exact Y4.out _) | go_keep)
                (fail)
              have hbe : Below w4.heap.size w4 ((w4.alloc (.cells #[.pointer (some ⟨b3, o3, none⟩), .pointer (some ⟨b4, o4, none⟩), .int .i64 (n2 : Int)] 85)).drew) := (below_alloc _ _).drew
              have HN5 := Lib.hid (HN4.out.grow hbe)
              have HX5 := Lib.hid (HX4.out.below hbe HX4.out.lt)
              have HY5 := Lib.hid (HY4.out.below hbe HY4.out.lt)
              have HB5 : Hid (Below W.heap.size W ((w4.alloc (.cells #[.pointer (some ⟨b3, o3, none⟩), .pointer (some ⟨b4, o4, none⟩), .int .i64 (n2 : Int)] 85)).drew)) := HB4.out.trans (hbe.mono HB4.out.size)
              have hp5 : RW 85 ((w4.alloc (.cells #[.pointer (some ⟨b3, o3, none⟩), .pointer (some ⟨b4, o4, none⟩), .int .i64 (n2 : Int)] 85)).drew) w4.heap.size #[.pointer (some ⟨b3, o3, none⟩), .pointer (some ⟨b4, o4, none⟩), .int .i64 (n2 : Int)] := RW.new w4 _ _
              have t0 := hp5.cell 0
              have t1 := hp5.cell 1
              have t2 := hp5.cell 2
              go_split_ands
              generalize (w4.alloc (.cells #[.pointer (some ⟨b3, o3, none⟩), .pointer (some ⟨b4, o4, none⟩), .int .i64 (n2 : Int)] 85)).drew = w5 at HN5 HX5 HY5 HB5 t0 t1 t2 ⊢
              clear hbe hp5 HN4 HX4 HY4 HB4 X4 Y4
              have hm1 : (⟨b3, o3, b4, o4, n2, z, u⟩ : Me).Ok w1 B (d + 1) := ⟨hposN, HKK.out.1, HKK.out.2.1⟩
              have HM1 := Lib.hid hm1
              have HM5 := Lib.hid (hm1.fr HN5.out.1)
              clear hm1
              have HWZ : Hid (Wl Pt.kids Pt.hd x y C ((z, u) :: (q.t.drop (j + 1) ++ S.flatMap Ls.t))) := by
                have h := HN5.out.2.2.2.2.2.1
                rwa [HZU.out, List.cons_append] at h
              have HLZ : Hid (ptN z + wlN ptN (q.t.drop (j + 1) ++ S.flatMap Ls.t) + j ≤ gq) := by
                have h := HN5.out.2.2.2.2.2.2.1
                rw [HZU.out, List.cons_append, show (z, u) :: (q.t.drop (j + 1) ++ S.flatMap Ls.t) = [(z, u)] ++ (q.t.drop (j + 1) ++ S.flatMap Ls.t) from rfl, wlN_append] at h
                show _ ≤ _
                have e : wlN ptN [(z, u)] = ptN z := by simp [wlN]
                omega
              rcases lookP HN5.out.2.2.2.1.2 HM5.out (fun r hr => (HN5.out.2.2.1 r hr).1.fr HN5.out.1) with ⟨hlk, w6, hput, u1, u2, u3⟩ | ⟨hlk, r, hr, hk1, hk2⟩
              · unfold Me.key at hlk hput
                have HG1 : Hid (bm < B) := HN5.out.2.2.2.1.1
                have HX6 : Hid (RW 29 w6 wr.heap.size #[.int .i64 z.k, .int .i64 z.n, .string z.t, .slice (some ⟨b3, o3, none⟩) n2 c1]) := (u2.block _ HX5.out.lt (by have h1 := HN.out.1.1; have h2 := HG1.out; simp only [ne_eq, Option.some.injEq]; omega)).trans HX5.out
                have HY6 : Hid (RW 29 w6 (wr.heap.size + 1) #[.int .i64 u.k, .int .i64 u.n, .string u.t, .slice (some ⟨b4, o4, none⟩) n2 c2]) := (u2.block _ HY5.out.lt (by have h1 := HN.out.1.1; have h2 := HG1.out; simp only [ne_eq, Option.some.injEq]; omega)).trans HY5.out
                have x6 := HX6.out.cell 3
                have y6 := HY6.out.cell 3
                have HF6 : Hid (FrG w1 B w6) := HN5.out.1.grown u2 (fun k hk _ => by cases hk; exact HG0.out)
                have HA6 : Hid (AMap w6 bm (entsP (M ++ [⟨b3, o3, b4, o4, n2, z, u⟩]))) := u1
                have HO6 : Hid (w6.ownsRow B 81 2 (.slice A3 m3 c3) m3 (S.flatMap Ls.vs)) := by
                  have h := HN5.out.2.2.2.2.1
                  rw [HM3.out] at h
                  obtain ⟨v0, v1 | ⟨g', cap, cur, v1, v2, v3, v4⟩⟩ := h
                  · exact ⟨v0, .inl v1⟩
                  · exact ⟨v0, .inr ⟨g', cap, cur, v1, v2, (u2.block g' (RW.lt v3) (by have h2 := HG1.out; simp only [ne_eq, Option.some.injEq]; omega)).trans v3, v4⟩⟩
                have HR6 : Hid (B ≤ wo.heap.size ∧ RW 81 w6 wo.heap.size #[.slice q.A q.l.length q.c, .slice q.A' q.l.length q.c'] ∧ ∀ k, (Value.slice A3 m3 c3).ownBlock = some k → k ≠ wo.heap.size) := by
                  obtain ⟨_, _, _, _, _, _, _, _, v1, v2, v3⟩ := HN5.out
                  rw [HM3.out] at v3
                  exact ⟨v1, (u2.block _ v2.lt (by have h2 := HG1.out; simp only [ne_eq, Option.some.injEq]; omega)).trans v2, v3⟩
                have HB6 : Hid (Below W.heap.size W w6) := HB5.out.grown u2 HB5.out.size (fun k hk => by cases hk; exact HBM.out)
                have HCN : Hid (m3 + 1 ≤ 2000000) := by
                  have h1 := ls_bound HN5.out.2.1
                  have h2 := HLZ.out
                  have h3 := HN5.out.2.2.2.2.2.2.2.1
                  have h4 := HM3.out
                  have h5 := ptWlOk.pos z
                  rw [wlN_append] at h2
                  show _ ≤ _
                  omega
                obtain ⟨i0, hi, hz0, hz1, hz2⟩ := info_parts infoLs
                have HI : Hid (Try.prog.info? 81 = some i0 ∧ i0.zero = some (.agg #[.slice none 0 0, .slice none 0 0]) ∧ i0.size = 2 ∧ i0.bytes = 48) := ⟨hi, hz0, hz1, hz2⟩
                clear hi hz0 hz1 hz2 u1 u2 u3
                go_wp2_with (at_builtin; refine wpList_append_own_at _ rfl _ _ 82 rfl B 81 i0 (.agg #[.slice none 0 0, .slice none 0 0]) 2 48 Try.underlying82 HI.out.1 HI.out.2.1 HI.out.2.2.1 HI.out.2.2.2 rfl (by decide) (.slice A3 m3 c3) m3 (S.flatMap Ls.vs) rfl (HO6.out.alloc _) ⟨w6.heap.size, 0, none⟩ 1 1 [.slice (some ⟨b3, o3, none⟩) n2 c1, .slice (some ⟨b4, o4, none⟩) n2 c2] rfl rfl (cells_new w6 #[.slice (some ⟨b3, o3, none⟩) n2 c1, .slice (some ⟨b4, o4, none⟩) n2 c2] _) (fun x hx => by simp at hx; rcases hx with rfl | rfl <;> rfl) (by have := HCN.out; unfold maxLen; omega) (by have := HCN.out; omega) (by have := HF6.out.1; simp; omega) ?_; intro v7 w7 hown7 hgr7 _ hor7; obtain ⟨g9, c9, rfl⟩ := row_form hown7 (Nat.succ_pos _))
                go_roundg (gk - 1)
                case measure => have := HJG.out; have := HL.out; omega
                case rel =>
                  have hgr8 : Below W.heap.size W w7 := (HB6.out.alloc HB6.out.size _).grown hgr7 (by have := HB6.out.size; simp; omega) (fun k hk => by have h1 := (ptRow_lt HO6.out hk).1; have h2 := HWB.out; omega)
                  have hS : (S ++ [(⟨some ⟨b3, o3, none⟩, c1, z.kids, some ⟨b4, o4, none⟩, c2, u.kids⟩ : Ls)]).length = m3 + 1 := by rw [List.length_append, HM3.out]; rfl
                  have hvs : (S ++ [(⟨some ⟨b3, o3, none⟩, c1, z.kids, some ⟨b4, o4, none⟩, c2, u.kids⟩ : Ls)]).flatMap Ls.vs = S.flatMap Ls.vs ++ [.slice (some ⟨b3, o3, none⟩) n2 c1, .slice (some ⟨b4, o4, none⟩) n2 c2] := by
                    rw [List.flatMap_append]
                    simp [Ls.vs, HK1.out]
                  have hts : (S ++ [(⟨some ⟨b3, o3, none⟩, c1, z.kids, some ⟨b4, o4, none⟩, c2, u.kids⟩ : Ls)]).flatMap Ls.t = S.flatMap Ls.t ++ z.kids.zip u.kids := by
                    rw [List.flatMap_append]
                    simp [Ls.t]
                  have hf7 : FrG w1 B w7 := (HF6.out.below (below_alloc w6 _)).grown hgr7 (fun k hk hkB => by have h1 := (ptRow_lt HO6.out hk).1; omega)
                  refine ⟨j + 1, S ++ [⟨some ⟨b3, o3, none⟩, c1, z.kids, some ⟨b4, o4, none⟩, c2, u.kids⟩], M ++ [⟨b3, o3, b4, o4, n2, z, u⟩], C ++ [(z, u)], some ⟨g9, 0, none⟩, m3 + 1, c9, (by have := HJG.out; have := HL.out; omega), by go_num, rfl, Lib.hid hS, ⟨hf7, ?_, ?_, ⟨HG1.out, ?_⟩, ?_, ?_, ?_, HN5.out.2.2.2.2.2.2.2.1, HR6.out.1, ?_, ?_⟩, hgr8⟩
                  · intro r hr
                    rcases List.mem_append.1 hr with h | h
                    · exact HN5.out.2.1 r h
                    · rw [List.mem_singleton.1 h]
                      exact ⟨by show z.kids.length = u.kids.length; rw [HK1.out, HK2.out], by show 0 < z.kids.length; rw [HK1.out]; exact hposN, by show PtU w1 0 B (d + 1) _ z.kids.length z.kids; rw [HK1.out]; exact HKK.out.1, by show PtU w1 0 B (d + 1) _ z.kids.length u.kids; rw [HK1.out]; exact HKK.out.2.1⟩
                  · intro r hr
                    rcases List.mem_append.1 hr with h | h
                    · exact ⟨(HN5.out.2.2.1 r h).1, List.mem_append.2 (.inl (HN5.out.2.2.1 r h).2)⟩
                    · rw [List.mem_singleton.1 h]
                      exact ⟨HM1.out, List.mem_append.2 (.inr (List.mem_singleton.2 rfl))⟩
                  · exact AMap.kept (HA6.out.below (below_alloc w6 _) HA6.out.lt) hgr7 (fun e => by have h1 := (ptRow_lt HO6.out e.symm).1; have h2 := HG1.out; omega)
                  · rw [hS, hvs]
                    exact hown7
                  · rw [hts, ← List.append_assoc]
                    exact HWZ.out.expand1 HHD.out
                  · have h1 := HLZ.out
                    have h2 := ptWlOk.kid z
                    rw [hts, ← List.append_assoc, wlN_append, wlN_zip _ _ (by rw [HK1.out, HK2.out])]
                    omega
                  · have hr := HR6.out.2.1
                    refine (hgr7.block wo.heap.size (Nat.lt_of_lt_of_le hr.lt (below_alloc w6 _).size) (fun e => HR6.out.2.2 _ e.symm rfl)).trans (hr.alloc _)
                  · intro k hk e
                    cases hk
                    rcases hor7 with h | h
                    · exact HR6.out.2.2 _ h.symm e
                    · have h1 := HR6.out.2.1.lt
                      have h2 : g9 = _ := Option.some.inj h
                      have e2 : g9 = wo.heap.size := e
                      have h3 := (below_alloc w6 (.cells #[.slice (some ⟨b3, o3, none⟩) n2 c1, .slice (some ⟨b4, o4, none⟩) n2 c2] 81)).size
                      omega
              · unfold Me.key at hlk
                have HRM := Lib.hid hr
                have HR1 := Lib.hid hk1
                have HR2 := Lib.hid hk2
                clear hr hk1 hk2
                go_wp2_with fail
                go_roundg (gk - 1)
                case measure => have := HJG.out; have := HL.out; omega
                case rel =>
                  obtain ⟨v1, v2, v3, v4, v5, v6, v7, v8⟩ := HN5.out
                  have hm := (v3 r HRM.out).2
                  refine ⟨j + 1, S, M, C ++ [(z, u)], A3, m3, c3, (by have := HJG.out; have := HL.out; omega), by go_num, rfl, HM3, ⟨v1, v2, fun p hp => ⟨(v3 p hp).1, List.mem_append.2 (.inl (v3 p hp).2)⟩, v4, v5, HWZ.out.alias HHD.out hm HR1.out HR2.out, ?_, v8⟩, HB5⟩
                  have h1 := HLZ.out
                  have h2 := ptWlOk.pos z
                  omega
        · have HJ : Hid (j = ql) := by show _ = _; omega
          go_wp2_with fail
          have hI := HN.out
          have hd0 : q.t.drop j = [] := by
            rw [HJ.out, ← HQL.out]
            refine List.drop_eq_nil_of_le ?_
            unfold Ls.t
            rw [List.length_zip]
            omega
          have hN := hI.2.2.2.2.2.2.1
          have hW := hI.2.2.2.2.2.1
          rw [hd0, List.nil_append] at hN hW
          go_roundg (wlN ptN (S.flatMap Ls.t))
          case measure =>
            have h1 := HQ.out.2.1
            have h2 := HQL.out
            have h3 := HJ.out
            omega
          case rel =>
            exact ⟨S, M, C, A3, m3, c3, rfl, HM3.out, ⟨hI.1, hI.2.1, hI.2.2.1, hI.2.2.2.1, hI.2.2.2.2.1, hW, Nat.le_refl _, by have := hI.2.2.2.2.2.2.2.1; omega⟩, HBR.out⟩
end Go.Proofs.Ytbaadphgbhaboaa
