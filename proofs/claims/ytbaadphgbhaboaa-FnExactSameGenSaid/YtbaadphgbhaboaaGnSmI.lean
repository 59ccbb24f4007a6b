/- Contract: SameGen of the program. No condition. -/
import Derived.Test.YtbaadphgbhaboaaGnSmN
import Derived.Deep.LoopGhost
import Derived.Deep.RegionHeld3
import Derived.Maps.OwnOps
import Derived.Deep.Cut
import Derived.Deep.CutRange
import Derived.Deep.CutBlock
namespace Go.Proofs.Ytbaadphgbhaboaa
open Go Go.RowKit

/-- What holds at the loop's head: S waits (in the row at v), C was compared (the map in block B); at most g nodes are still to come. -/
def InvE (w1 : World) (B d N : Nat) (a b : Gn) (g : Nat) (S C : List Pr) (v : Value) (w : World) : Prop :=
  Below B w1 w ∧ (∀ q ∈ S, q.Ok w1 B d) ∧ (∀ q ∈ C, q.Ok w1 B d) ∧ AMap w B (entsE C) ∧ w.ownsRow (B + 1) 119 2 v S.length (S.flatMap Pr.vs) ∧ Wl Gn.kids Gn.hd a b (C.map Pr.t) (S.map Pr.t) ∧ wlN gnN (S.map Pr.t) ≤ g ∧ g ≤ N

theorem startE {d : Nat} {x y : Gn} {A A' : Option Addr} {n n' c c' : Nat} {W X : World} (hx : GnUV W 0 W.heap.size (d + 1) x A n) (hy : GnUV W 0 W.heap.size (d + 1) y A' n') (hz : gnN x ≤ 2000000)
    (e : X = ((((W.alloc (.cells #[.int .i64 x.k, .int .i64 x.n, .string x.t, .int .i64 x.vk, .int .i64 x.vn, .string x.vt, .int .i64 x.vr, .slice A n c] 75)).alloc (.cells #[.int .i64 y.k, .int .i64 y.n, .string y.t, .int .i64 y.vk, .int .i64 y.vn, .string y.vt, .int .i64 y.vr, .slice A' n' c'] 75)).alloc (.map #[] 0)).alloc
      (.cells #[.pointer (some ⟨W.heap.size, 0, none⟩), .pointer (some ⟨W.heap.size + 1, 0, none⟩)] 119))) :
    ∃ w1, InvE w1 (W.heap.size + 1 + 1) (d + 1) 2000000 x y (gnN x) [⟨W.heap.size, 0, x, W.heap.size + 1, 0, y⟩] [] (.slice (some ⟨W.heap.size + 1 + 1 + 1, 0, none⟩) 1 1) X ∧ Below W.heap.size W w1 ∧ w1.heap.size = W.heap.size + 1 + 1 := by
  obtain ⟨w1, hw1⟩ : ∃ w1, (W.alloc (.cells #[.int .i64 x.k, .int .i64 x.n, .string x.t, .int .i64 x.vk, .int .i64 x.vn, .string x.vt, .int .i64 x.vr, .slice A n c] 75)).alloc (.cells #[.int .i64 y.k, .int .i64 y.n, .string y.t, .int .i64 y.vk, .int .i64 y.vn, .string y.vt, .int .i64 y.vr, .slice A' n' c'] 75) = w1 := ⟨_, rfl⟩
  obtain ⟨g0, g1, g2, g3⟩ := two_new W _ _ _ w1 hw1.symm
  rw [hw1] at e
  have hs : w1.heap.size = W.heap.size + 1 + 1 := g3
  have hsm : (w1.alloc (.map #[] 0)).heap.size = W.heap.size + 1 + 1 + 1 := by simp [hs]
  have hr : RW 119 X (W.heap.size + 1 + 1 + 1) #[.pointer (some ⟨W.heap.size, 0, none⟩), .pointer (some ⟨W.heap.size + 1, 0, none⟩)] := by
    rw [e, ← hsm]
    exact RW.new _ _ _
  have hbX : Below w1.heap.size w1 X := by
    rw [e]
    exact (below_alloc _ _).alloc (by simp) _
  refine ⟨w1, ⟨by rw [← hs]; exact hbX, ?_, fun q h => (by cases h), ?_, ⟨rfl, .inr ⟨_, 1, _, rfl, Nat.le_refl _, hr, Nat.le_refl _, by unfold maxLen; omega, rfl, rfl⟩⟩, Wl.start x y, ?_, hz⟩, g2, hs⟩
  · intro q hq
    simp only [List.mem_singleton] at hq
    subst hq
    refine ⟨⟨A, n, c, by dsimp only; omega, g0.good, ⟨g0.cell 0, g0.cell 1, g0.cell 2, g0.cell 3, g0.cell 4, g0.cell 5, g0.cell 6, g0.cell 7⟩, hx.1, (hx.2.below g2).more (Nat.le_refl _) (by omega)⟩, A', n', c', by dsimp only; omega, g1.good, ⟨g1.cell 0, g1.cell 1, g1.cell 2, g1.cell 3, g1.cell 4, g1.cell 5, g1.cell 6, g1.cell 7⟩, hy.1, (hy.2.below g2).more (Nat.le_refl _) (by omega)⟩
  · have h := AMap.made w1
    rw [hs] at h
    rw [e]
    exact h.below (below_alloc (w1.alloc (.map #[] 0)) _) (by simp [hs])
  · simp [wlN, Pr.t]

theorem vs_len : ∀ S : List Pr, (S.flatMap Pr.vs).length = S.length * 2
  | [] => rfl
  | a :: r => by
    rw [List.flatMap_cons, List.length_append, vs_len r, List.length_cons]
    simp only [Pr.vs, List.length_cons, List.length_nil]
    omega
/-- The last pair that waits, in its row. -/
theorem popE {w : World} {B : Nat} {T : TypeId} {A : Option Addr} {c : Nat} {S : List Pr} {q : Pr} (h : w.ownsRow B T 2 (.slice A (S ++ [q]).length c) (S ++ [q]).length ((S ++ [q]).flatMap Pr.vs)) :
    ∃ g, A = some ⟨g, 0, none⟩ ∧ (S.length + 1 ≤ c ∧ c ≤ maxLen) ∧ w.cell? ⟨g, S.length * 2, none⟩ = some (.pointer (some ⟨q.b, q.p, none⟩)) ∧ w.cell? ⟨g, S.length * 2 + 1, none⟩ = some (.pointer (some ⟨q.b', q.p', none⟩)) ∧
      w.ownsRow B T 2 (.slice (some ⟨g, 0, none⟩) S.length c) S.length (S.flatMap Pr.vs) := by
  obtain ⟨h0, h1⟩ := h
  rcases h1 with ⟨_, h1⟩ | ⟨g, cap, cur, h1, h2, h3, h4, h5, h6, h7⟩
  · simp at h1
  · simp only [Value.slice.injEq] at h1
    obtain ⟨rfl, _, rfl⟩ := h1
    have hl : (S.flatMap Pr.vs).length = S.length * 2 := by
      exact vs_len S
    simp only [List.length_append, List.length_singleton] at h0 h4 h7
    have key : ∀ i v, ((S ++ [q]).flatMap Pr.vs)[i]? = some v → w.cell? ⟨g, i, none⟩ = some v := by
      intro i v hi
      rw [cell_of_row w g i cur T (0, 0) h3, ← Array.getElem?_toList]
      rw [← h7] at hi
      rw [List.getElem?_take] at hi
      split at hi
      · exact hi
      · cases hi
    refine ⟨g, rfl, ⟨h4, h5⟩, key _ _ ?_, key _ _ ?_, hl, .inr ⟨g, c, cur, rfl, h2, h3, by omega, h5, h6, ?_⟩⟩
    · rw [List.flatMap_append, List.getElem?_append_right (by omega), hl]
      simp [Pr.vs]
    · rw [List.flatMap_append, List.getElem?_append_right (by omega), hl]
      simp [Pr.vs]
    · have e : S.flatMap Pr.vs = ((S ++ [q]).flatMap Pr.vs).take (S.length * 2) := by rw [List.flatMap_append, List.take_left' hl]
      rw [e, ← h7, List.take_take]
      congr 1
      omega

theorem ownsRow_below {w w' : World} {base T s n : Nat} {v : Value} {xs : List Value} (h : w.ownsRow base T s v n xs) (hb : Below w.heap.size w w') : w'.ownsRow base T s v n xs := by
  obtain ⟨h0, h1 | ⟨g, cap, cur, h1, h2, h3, h4⟩⟩ := h
  · exact ⟨h0, .inl h1⟩
  · exact ⟨h0, .inr ⟨g, cap, cur, h1, h2, (hb.block g (RW.lt h3)).trans h3, h4⟩⟩
theorem ownsRow_lt {w : World} {base T s n : Nat} {v : Value} {xs : List Value} (h : w.ownsRow base T s v n xs) {g : Nat} (hg : v.ownBlock = some g) : base ≤ g ∧ g < w.heap.size ∧ ∃ cs, RW T w g cs := by
  obtain ⟨h0, h1 | ⟨g', cap, cur, h1, h2, h3, h4⟩⟩ := h
  · rw [h1.1] at hg; cases hg
  · rw [h1] at hg
    simp only [Value.ownBlock, Option.some.injEq] at hg
    subst hg
    exact ⟨h2, RW.lt h3, cur, h3⟩

theorem Pr.Ok.below {w w' : World} {B D : Nat} {q : Pr} (h : q.Ok w B D) (hb : Below B w w') : q.Ok w' B D := by
  obtain ⟨⟨A, n, c, h1⟩, A', n', c', h2⟩ := h
  exact ⟨⟨A, n, c, h1.below hb⟩, A', n', c', h2.below hb⟩
theorem lookE {w : World} {B D b : Nat} {C : List Pr} {q : Pr} (h : AMap w b (entsE C)) (hq : q.Ok w B D) (hC : ∀ r ∈ C, r.Ok w B D) :
    ((Instr.lookup 117 (.map (some b)) q.key false).run Try.prog w = .ok (.bool false) w ∧ ∃ w', (Instr.mapUpdate 117 (.map (some b)) q.key (.bool true)).run Try.prog w = .ok () w' ∧ AMap w' b (entsE (C ++ [q])) ∧ w.grownBy w' (some b) ∧ w'.heap.size = w.heap.size) ∨
    ((Instr.lookup 117 (.map (some b)) q.key false).run Try.prog w = .ok (.bool true) w ∧ (q.x, q.y) ∈ C.map Pr.t) := by
  have he : ∀ p ∈ entsE C, (Op.equal 119 q.key p.1).run Try.prog w = .ok (tt (p.1 = q.key)) w := by
    intro p hp
    obtain ⟨r, hr, rfl⟩ := List.mem_map.1 hp
    exact run_equal_key hq (hC r hr)
  have hl := (h.look (t := 117) (et := 4) Try.underlying117 under_key (z := .bool false) (by kernel_rfl) (run_check_key w q) he).1
  rcases getA_ents C q with ⟨h1, _⟩ | ⟨h1, r, hr, h2⟩
  · rw [h1] at hl
    obtain ⟨w', u1, u2, u3, u4⟩ := h.put (t := 117) (et := 4) Try.underlying117 under_key (run_check_key w q) he h1 (.bool true)
    refine .inl ⟨hl, w', u1, ?_, u3, u4⟩
    have e : entsE (C ++ [q]) = entsE C ++ [(q.key, .bool true)] := by simp [entsE]
    rw [e]
    exact u2
  · rw [h1] at hl
    refine .inr ⟨hl, List.mem_map.2 ⟨r, hr, ?_⟩⟩
    obtain ⟨e1, e2, e3, e4⟩ := key_inj h2
    obtain ⟨⟨A, n, c, a1⟩, A', n', c', a2⟩ := hq
    obtain ⟨⟨A2, n2, c2, b1⟩, A2', n2', c2', b2⟩ := hC r hr
    rw [e1, e2] at b1
    rw [e3, e4] at b2
    rw [Pr.t, b1.det a1, b2.det a2]

theorem kidsOk {w : World} {B d b p b' p' : Nat} {x y : Gn} {A1 A2 : Option Addr} {n c c' : Nat} (h1 : NdE w B (d + 1) b p x A1 n c) (h2 : NdE w B (d + 1) b' p' y A2 n c') (hn : 0 < n) :
    ∃ b1 o1 b2 o2, A1 = some ⟨b1, o1, none⟩ ∧ A2 = some ⟨b2, o2, none⟩ ∧ ∀ r ∈ kidPr b1 o1 b2 o2 x.kids y.kids, r.Ok w B (d + 1) := by
  obtain ⟨b1, o1, x1, _, _, _, e1, _, _, _, _⟩ := h1.2.2.2.2.at_ hn
  obtain ⟨b2, o2, y1, _, _, _, e2, _, _, _, _⟩ := h2.2.2.2.2.at_ hn
  refine ⟨b1, o1, b2, o2, e1, e2, fun r hr => ?_⟩
  obtain ⟨j, hj⟩ := List.getElem?_of_mem hr
  have hl1 := h1.2.2.2.2.len.1
  have hl2 := h2.2.2.2.2.len.1
  have hjn : j < n := by
    have h3 := (List.getElem?_eq_some_iff.1 hj).1
    rw [kidPr_len _ _ _ _ _ _ (by omega)] at h3
    omega
  obtain ⟨b3, o3, x3, A3, n3, c3, e3, _, g3, G3, hx3, _, at3, s3, k3⟩ := h1.2.2.2.2.at_ hjn
  obtain ⟨b4, o4, x4, A4, n4, c4, e4, _, g4, G4, hx4, _, at4, s4, k4⟩ := h2.2.2.2.2.at_ hjn
  rw [e1] at e3
  rw [e2] at e4
  simp only [Option.some.injEq, Addr.mk.injEq, and_true] at e3 e4
  obtain ⟨rfl, rfl⟩ := e3
  obtain ⟨rfl, rfl⟩ := e4
  rw [kidPr_at _ _ _ _ _ _ _ _ _ hx3 hx4, Option.some.injEq] at hj
  subst hj
  exact ⟨⟨A3, n3, c3, g3, G3, at3, s3, k3.deeper⟩, A4, n4, c4, g4, G4, at4, s4, k4.deeper⟩
theorem infoPr : (Try.prog.info? 119).map (fun i => (i.zero, i.size, i.bytes)) = some (some (.agg #[.pointer none, .pointer none]), 2, 16) := by kernel_rfl

/-- The pair at hand in its box r, and its two nodes. -/
def PairE (B d r : Nat) (q : Pr) (A1 A2 : Option Addr) (n1 n2 c1 c2 : Nat) (w : World) : Prop :=
  B ≤ r ∧ RW 119 w r #[.pointer (some ⟨q.b, q.p, none⟩), .pointer (some ⟨q.b', q.p', none⟩)] ∧ NdE w B d q.b q.p q.x A1 n1 c1 ∧ NdE w B d q.b' q.p' q.y A2 n2 c2
abbrev FlatPE (B d r : Nat) (q : Pr) (A1 A2 : Option Addr) (n1 n2 c1 c2 : Nat) (w : World) : Prop :=
  (w.cell? ⟨r, 0, none⟩ = some (.pointer (some ⟨q.b, q.p, none⟩)) ∧ w.cell? ⟨r, 1, none⟩ = some (.pointer (some ⟨q.b', q.p', none⟩))) ∧ (w.cell? ⟨q.b, q.p, none⟩ = some (.int .i64 q.x.k) ∧ w.cell? ⟨q.b, q.p + 1, none⟩ = some (.int .i64 q.x.n) ∧ w.cell? ⟨q.b, q.p + 2, none⟩ = some (.string q.x.t) ∧ w.cell? ⟨q.b, q.p + 3, none⟩ = some (.int .i64 q.x.vk) ∧ w.cell? ⟨q.b, q.p + 4, none⟩ = some (.int .i64 q.x.vn) ∧ w.cell? ⟨q.b, q.p + 5, none⟩ = some (.string q.x.vt) ∧ w.cell? ⟨q.b, q.p + 6, none⟩ = some (.int .i64 q.x.vr) ∧ w.cell? ⟨q.b, q.p + 7, none⟩ = some (.slice A1 n1 c1)) ∧ (w.cell? ⟨q.b', q.p', none⟩ = some (.int .i64 q.y.k) ∧ w.cell? ⟨q.b', q.p' + 1, none⟩ = some (.int .i64 q.y.n) ∧ w.cell? ⟨q.b', q.p' + 2, none⟩ = some (.string q.y.t) ∧ w.cell? ⟨q.b', q.p' + 3, none⟩ = some (.int .i64 q.y.vk) ∧ w.cell? ⟨q.b', q.p' + 4, none⟩ = some (.int .i64 q.y.vn) ∧ w.cell? ⟨q.b', q.p' + 5, none⟩ = some (.string q.y.vt) ∧ w.cell? ⟨q.b', q.p' + 6, none⟩ = some (.int .i64 q.y.vr) ∧ w.cell? ⟨q.b', q.p' + 7, none⟩ = some (.slice A2 n2 c2)) ∧ PairE B d r q A1 A2 n1 n2 c1 c2 w
section
variable {B d r : Nat} {q : Pr} {A1 A2 : Option Addr} {n1 n2 c1 c2 : Nat} {w w' : World}
theorem PairE.flat (h : PairE B d r q A1 A2 n1 n2 c1 c2 w) : FlatPE B d r q A1 A2 n1 n2 c1 c2 w := ⟨⟨h.2.1.cell 0, h.2.1.cell 1⟩, h.2.2.1.2.2.1, h.2.2.2.2.2.1, h⟩
theorem PairE.grow (h : PairE B d r q A1 A2 n1 n2 c1 c2 w) (hb : Below w.heap.size w w') : PairE B d r q A1 A2 n1 n2 c1 c2 w' := by
  have hl := h.2.1.lt
  have hB := hb.mono (show B ≤ w.heap.size by have := h.1; omega)
  exact ⟨h.1, h.2.1.below hb hl, h.2.2.1.below hB, h.2.2.2.below hB⟩
theorem PairE.grown {row : Option Nat} (h : PairE B d r q A1 A2 n1 n2 c1 c2 w) (hg : w.grownBy w' row) (hr : some r ≠ row) (hB : ∀ g, row = some g → B ≤ g) : PairE B d r q A1 A2 n1 n2 c1 c2 w' := by
  have hl := h.2.1.lt
  have hbB : Below B w w' := (Below.refl B w).grown hg (by have := h.1; omega) hB
  exact ⟨h.1, (hg.block r hl hr).trans h.2.1, h.2.2.1.below hbB, h.2.2.2.below hbB⟩
end

set_option maxHeartbeats 4000000 in
set_option maxRecDepth 100000 in
theorem impl_SameGen_any (d : Nat) (x y : Gn) (A A' : Option Addr) (n n' c c' : Nat) (W : World) (hx : GnUV W 0 W.heap.size (d + 1) x A n) (hy : GnUV W 0 W.heap.size (d + 1) y A' n') (hz : gnN x ≤ 2000000) :
    Calls Try.prog 34 #[x.ag A n c, y.ag A' n' c'] W fun e w' => e = .returned (.bool (tt (x = y))) ∧ Below W.heap.size W w' := by
  have HX := Lib.hid hx
  have HY := Lib.hid hy
  have HZ := Lib.hid hz
  clear hx hy hz
  obtain ⟨E, hE⟩ : ∃ E, tt (x = y) = E := ⟨_, rfl⟩
  have HE := Lib.hid hE
  rw [hE]
  clear hE
  have HC := Lib.hid (two_new W 75 #[.int .i64 x.k, .int .i64 x.n, .string x.t, .int .i64 x.vk, .int .i64 x.vn, .string x.vt, .int .i64 x.vr, .slice A n c] #[.int .i64 y.k, .int .i64 y.n, .string y.t, .int .i64 y.vk, .int .i64 y.vn, .string y.vt, .int .i64 y.vr, .slice A' n' c'])
  have hmm := @run_makeMap Try.prog
  show Calls Try.prog 34 #[.agg #[.int .i64 x.k, .int .i64 x.n, .string x.t, .int .i64 x.vk, .int .i64 x.vn, .string x.vt, .int .i64 x.vr, .slice A n c], .agg #[.int .i64 y.k, .int .i64 y.n, .string y.t, .int .i64 y.vk, .int .i64 y.vn, .string y.vt, .int .i64 y.vr, .slice A' n' c']] W _
  go_enter Try.func34, Try.ntmps34
  go_wp2_with fail
  obtain ⟨w1, HI0, HB0, hs1⟩ := startE HX.out HY.out HZ.out rfl
  have HI0 := Lib.hid HI0
  have HB0 := Lib.hid HB0
  have HS1 := Lib.hid hs1
  clear hs1
  generalize (((W.alloc (.cells #[.int .i64 x.k, .int .i64 x.n, .string x.t, .int .i64 x.vk, .int .i64 x.vn, .string x.vt, .int .i64 x.vr, .slice A n c] 75)).alloc (.cells #[.int .i64 y.k, .int .i64 y.n, .string y.t, .int .i64 y.vk, .int .i64 y.vn, .string y.vt, .int .i64 y.vr, .slice A' n' c'] 75)).alloc (.map #[] 0)).alloc (.cells #[.pointer (some ⟨W.heap.size, 0, none⟩), .pointer (some ⟨W.heap.size + 1, 0, none⟩)] 119) = w2 at HI0 ⊢
  have hBB : w1.heap.size = W.heap.size + 1 + 1 := HS1.out
  rw [← hBB] at HI0
  rw [← hBB]
  clear HC hmm hBB
  go_loopg [6] (gnN x) (fun gk v wr => ∃ (S C : List Pr) (A : Option Addr) (m c : Nat), v = .slice A m c ∧ Hid (S.length = m) ∧ Hid (InvE w1 w1.heap.size (d + 1) 2000000 x y gk S C (.slice A S.length c) wr))
  case atStart => exact ⟨[⟨W.heap.size, 0, x, W.heap.size + 1, 0, y⟩], [], _, 1, 1, rfl, rfl, HI0⟩
  case round =>
    obtain ⟨wo, hwo⟩ : ∃ wo, wo = wr := ⟨_, rfl⟩
    subst hwo
    obtain ⟨S, C, A0, m, c0, rfl, HM, HI⟩ := hrel
    rcases List.eq_nil_or_concat S with rfl | ⟨S', q, rfl⟩
    · have hm : m = 0 := HM.out.symm
      subst hm
      have hxy : x = y := HI.out.2.2.2.2.2.1.done gnWlOk
      have HE1 : Hid (E = true) := by show _ = _; rw [← HE.out, tt_true hxy]
      clear hxy
      go_wp2_with fail
      go_ret
      exact ⟨by rw [HE1.out]; first | done | rfl, HB0.out.trans (HI.out.1.mono (by have := HS1.out; omega))⟩
    · have hI := HI.out
      simp only [List.concat_eq_append] at hI
      obtain ⟨i1, i2, i3, i4, i5, i6, i7, i8⟩ := hI
      obtain ⟨g, hA, ⟨hc1, hc2⟩, hv0, hv1, hown⟩ := popE i5
      subst hA
      obtain ⟨k, hk⟩ : ∃ k, S'.length = k := ⟨_, rfl⟩
      rw [hk] at hc1 hv0 hv1 hown
      have hm : m = k + 1 := by rw [← HM.out, ← hk]; simp
      have HK := Lib.hid hk
      have hmk : (m : Int) - 1 = (k : Int) := by omega
      have hm0 : decide ((0 : Int) < (m : Int)) = true := by simp; omega
      have hk0 : (0 : Int) ≤ (k : Int) := by omega
      have hkm : (k : Int) < (m : Int) := by omega
      have hkc : (k : Int) ≤ (c0 : Int) := by omega
      unfold maxLen at hc2
      have HIN := Lib.hid hown
      have HGR : Hid (g < wo.heap.size) := (ownsRow_lt hown rfl).2.1
      have H1 := Lib.hid i1
      have H2 := Lib.hid i2
      have H3 := Lib.hid i3
      have H4 := Lib.hid i4
      have H6 := Lib.hid i6
      have H7 := Lib.hid i7
      have H8 := Lib.hid i8
      have HMM := Lib.hid hm
      clear i1 i2 i3 i4 i5 i6 i7 i8 hown HI HM hk hm hc1
      obtain ⟨⟨A1, n1, c1, o1⟩, A2, n2, c2, o2⟩ := H2.out q (by simp)
      have HP0 : Hid (∀ X, X = wo.alloc (.cells #[.pointer (some ⟨q.b, q.p, none⟩), .pointer (some ⟨q.b', q.p', none⟩)] 119) → PairE w1.heap.size (d + 1) wo.heap.size q A1 A2 n1 n2 c1 c2 X) := by
        rintro X rfl
        have hb := H1.out.alloc H1.out.size (.cells #[.pointer (some ⟨q.b, q.p, none⟩), .pointer (some ⟨q.b', q.p', none⟩)] 119)
        exact ⟨H1.out.size, RW.new _ _ _, o1.below hb, o2.below hb⟩
      have HN1 : Hid (q.x.kids.length = n1) := o1.2.2.2.2.len.1
      have HN2 : Hid (q.y.kids.length = n2) := o2.2.2.2.2.len.1
      have HM1 : Hid (n1 ≤ maxLen) := o1.2.2.2.2.len.2
      have HW1 : Hid (NdE w1 w1.heap.size (d + 1) q.b q.p q.x A1 n1 c1 ∧ NdE w1 w1.heap.size (d + 1) q.b' q.p' q.y A2 n2 c2) := ⟨o1, o2⟩
      clear o1 o2
      obtain ⟨P, hP⟩ : ∃ P, tt (q.x.hd q.y) = P := ⟨_, rfl⟩
      have HP := Lib.hid hP
      clear hP
      go_upto_region 6 with fail
      have HPA := Lib.hid (HP0.out _ rfl)
      have HWA : Hid (Below wo.heap.size wo (wo.alloc (.cells #[.pointer (some ⟨q.b, q.p, none⟩), .pointer (some ⟨q.b', q.p', none⟩)] 119))) := below_alloc _ _
      generalize wo.alloc (.cells #[.pointer (some ⟨q.b, q.p, none⟩), .pointer (some ⟨q.b', q.p', none⟩)] 119) = wa at HPA HWA ⊢
      clear HP0 hv0 hv1
      have HBA : Hid (Below w1.heap.size w1 wa) := H1.out.trans (HWA.out.mono H1.out.size)
      have b0 := HPA.out.2.1.cell 0
      have b1 := HPA.out.2.1.cell 1
      cases P
      · go_wp2_with (go_at_call 58; refine Calls.mono (isSame_any q.b q.p q.b' q.p' q.x q.y A1 A2 n1 n2 c1 c2 _ HPA.out.2.2.1.2.2.1 HPA.out.2.2.2.2.2.1 (Nat.lt_of_lt_of_le HPA.out.2.2.1.1 HBA.out.size) (Nat.lt_of_lt_of_le HPA.out.2.2.2.1 HBA.out.size) HN1.out HN2.out) ?_; rintro e w3 ⟨rfl, hb⟩; rw [HP.out]; have HP3 := Lib.hid (HPA.out.grow hb); have HB3 := Lib.hid (HBA.out.trans (hb.mono HBA.out.size)); have HO3 := Lib.hid (ownsRow_below (ownsRow_below HIN.out HWA.out) hb); have HA3 := Lib.hid ((H4.out.below HWA.out H4.out.lt).below hb (Nat.lt_of_lt_of_le H4.out.lt HWA.out.size)); clear hb; clear HWA)
        go_ret
        have hne : E = false := by
          rw [← HE.out]
          refine tt_false (Wl.no gnWlOk (show Wl Gn.kids Gn.hd x y (C.map Pr.t) (S'.map Pr.t ++ [(q.x, q.y)]) from ?_) (of_tt_false HP.out))
          have := H6.out
          rwa [List.map_append] at this
        exact ⟨by rw [hne]; first | done | rfl, HB0.out.trans (HB3.out.mono (by have := HS1.out; omega))⟩
      · go_upto_region 8 with (go_at_call 58; refine Calls.mono (isSame_any q.b q.p q.b' q.p' q.x q.y A1 A2 n1 n2 c1 c2 _ HPA.out.2.2.1.2.2.1 HPA.out.2.2.2.2.2.1 (Nat.lt_of_lt_of_le HPA.out.2.2.1.1 HBA.out.size) (Nat.lt_of_lt_of_le HPA.out.2.2.2.1 HBA.out.size) HN1.out HN2.out) ?_; rintro e w3 ⟨rfl, hb⟩; rw [HP.out]; have HP3 := Lib.hid (HPA.out.grow hb); have HB3 := Lib.hid (HBA.out.trans (hb.mono HBA.out.size)); have HO3 := Lib.hid (ownsRow_below (ownsRow_below HIN.out HWA.out) hb); have HA3 := Lib.hid ((H4.out.below HWA.out H4.out.lt).below hb (Nat.lt_of_lt_of_le H4.out.lt HWA.out.size)); clear hb; clear HWA)
        clear b0 b1
        have HHD := Lib.hid (of_tt HP.out)
        have H6' : Hid (Wl Gn.kids Gn.hd x y (C.map Pr.t) (S'.map Pr.t ++ [(q.x, q.y)])) := by
          have := H6.out
          rwa [List.map_append] at this
        have H7' : Hid (wlN gnN (S'.map Pr.t) + gnN q.x ≤ gk) := by
          have := H7.out
          rw [List.map_append, wlN_append] at this
          show _ ≤ _
          simpa [wlN, Pr.t] using this
        have HOS : Hid (∀ r ∈ S', r.Ok w1 w1.heap.size (d + 1)) := fun r hr => H2.out r (by simp [hr])
        clear H6 H7 HP HPA H4 HIN HBA
        obtain ⟨⟨p0, p1⟩, ⟨a0, a1, a2, a3, a4, a5, a6, a7⟩, ⟨b0, b1, b2, b3, b4, b5, b6, b7⟩, -⟩ := HP3.out.flat
        rcases lookE HA3.out ((H2.out q (by simp)).below HB3.out) (fun r hr => (H3.out r hr).below HB3.out) with ⟨hlk, w4, hput, u1, u2, u3⟩ | ⟨hlk, hin⟩
        · unfold Pr.key at hlk hput
          by_cases h0 : n1 = 0
          · subst h0
            go_wp2_with fail
            go_roundg (wlN gnN (S'.map Pr.t))
            case measure => have := H7'.out; have := gnWlOk.pos q.x; omega
            case rel =>
              refine ⟨S', C, some ⟨g, 0, none⟩, k, c0, rfl, HK.out, ?_⟩
              rw [HK.out]
              exact ⟨HB3.out, HOS.out, H3.out, HA3.out, by rw [HK.out]; exact HO3.out, H6'.out.leaf gnWlOk HHD.out (List.eq_nil_of_length_eq_zero HN1.out), Nat.le_refl _, by have := H8.out; have := H7'.out; omega⟩
          · have hn0 : ((n1 : Int) == 0) = false := by simp; omega
            have HP4 := Lib.hid (HP3.out.grown u2 (by simp only [ne_eq, Option.some.injEq]; have := HA3.out.ne_row HP3.out.2.1; omega) (fun g' hg' => by cases hg'; exact Nat.le_refl _))
            obtain ⟨⟨s0, s1⟩, ⟨e0, e1, e2, e3, e4, e5, e6, e7⟩, ⟨f0, f1, f2, f3, f4, f5, f6, f7⟩, -⟩ := HP4.out.flat
            have HA4 := Lib.hid u1
            have HB4 : Hid (Below w1.heap.size w1 w4) := HB3.out.grown u2 HB3.out.size (fun g' hg' => by cases hg'; exact Nat.le_refl _)
            have HO4 : Hid (w4.ownsRow (w1.heap.size + 1) 119 2 (.slice (some ⟨g, 0, none⟩) k c0) k (S'.flatMap Pr.vs)) := by
              obtain ⟨v0, v1⟩ := HO3.out
              rcases v1 with ⟨v1, _⟩ | ⟨g', cap, cur, v1, v2, v3, v4⟩
              · simp at v1
              · exact ⟨v0, .inr ⟨g', cap, cur, v1, v2, (u2.block g' (RW.lt v3) (by simp only [ne_eq, Option.some.injEq]; omega)).trans v3, v4⟩⟩
            clear u1 u2 u3
            go_wp2_with fail
            have hn12 : n2 = n1 := by rw [← HN1.out, ← HN2.out, HHD.out.2.2.2.2.2.2.2]
            subst hn12
            obtain ⟨k1, o1, k2, o2, hA1, hA2, hok⟩ := kidsOk HW1.out.1 HW1.out.2 (by omega)
            subst hA1 hA2
            obtain ⟨KL, hKL⟩ : ∃ KL, kidPr k1 o1 k2 o2 q.x.kids q.y.kids = KL := ⟨_, rfl⟩
            have HKL := Lib.hid hKL
            rw [hKL] at hok
            have HOK := Lib.hid hok
            have HKN : Hid (k + n2 ≤ 2000000) := by
              have e1 := wlN_len (sz := gnN) gnWlOk (S'.map Pr.t)
              rw [List.length_map, HK.out] at e1
              have e2 := H7'.out
              have e3 := H8.out
              have e4 : n2 ≤ gnN q.x := by
                rw [gnN_eq, ← HN1.out]
                have := wlN_len (sz := gnN) gnWlOk (q.x.kids.zip q.x.kids)
                rw [wlN_zip _ _ rfl, List.length_zip] at this
                omega
              show _ ≤ _
              omega
            obtain ⟨i0, hi, hz0, hz1, hz2⟩ := info_parts infoPr
            have HI : Hid (Try.prog.info? 119 = some i0 ∧ i0.zero = some (.agg #[.pointer none, .pointer none]) ∧ i0.size = 2 ∧ i0.bytes = 16) := ⟨hi, hz0, hz1, hz2⟩
            clear hi hz0 hz1 hz2 hKL hok hlk hput s0 s1 p0 p1 e0 e1 e2 e3 e4 e5 e6 e7 f0 f1 f2 f3 f4 f5 f6 f7 a0 a1 a2 a3 a4 a5 a6 a7 b0 b1 b2 b3 b4 b5 b6 b7
            have HO5 : Hid (w4.ownsRow (w1.heap.size + 1) 119 2 (.slice (some ⟨g, 0, none⟩) k c0) k ((S' ++ KL.take 0).flatMap Pr.vs)) := by
              rw [List.take_zero, List.append_nil]
              exact HO4.out
            have HGN : Hid (∀ a : Addr, some (⟨g, 0, none⟩ : Addr) = some a → a.block ≠ wo.heap.size) := by
              intro a ha
              cases ha
              have := HGR.out
              show g ≠ _
              omega
            go_loopw [6, 49] (fun v i wq => ∃ (j : Nat) (A3 : Option Addr) (m3 c3 : Nat), j ≤ n2 ∧ i = .int .i64 j ∧ v = .slice A3 m3 c3 ∧ Hid (m3 = k + j) ∧ Hid (∀ a : Addr, A3 = some a → a.block ≠ wo.heap.size) ∧ Hid (PairE w1.heap.size (d + 1) wo.heap.size q (some ⟨k1, o1, none⟩) (some ⟨k2, o2, none⟩) n2 n2 c1 c2 wq) ∧ Hid (Below w1.heap.size w1 wq) ∧ Hid (AMap wq w1.heap.size (entsE (C ++ [q]))) ∧ Hid (wq.ownsRow (w1.heap.size + 1) 119 2 (.slice A3 m3 c3) m3 ((S' ++ KL.take j).flatMap Pr.vs))) (fun _ i _ => n2 - (intOf i).toNat)
            case atStart => exact ⟨0, _, k, c0, Nat.zero_le _, rfl, rfl, Lib.hid rfl, HGN, HP4, HB4, HA4, HO5⟩
            case round =>
              obtain ⟨j, A3, m3, c3, hj, rfl, rfl, HM3, HN3, HPQ, HBQ, HAQ, HOQ⟩ := hrel
              by_cases hlt : j < n2
              · have HL := Lib.hid hlt
                have j0 : (0 : Int) ≤ (j : Int) := by omega
                have j1 : (j : Int) < (n2 : Int) := by omega
                have HPD5 : Hid (PairE w1.heap.size (d + 1) wo.heap.size q (some ⟨k1, o1, none⟩) (some ⟨k2, o2, none⟩) n2 n2 c1 c2 wr.drew) := HPQ.out.grow (Below.refl _ _).drew
                have HOD : Hid (wr.drew.ownsRow (w1.heap.size + 1) 119 2 (.slice A3 m3 c3) m3 ((S' ++ KL.take j).flatMap Pr.vs)) := HOQ
                have HPX : Hid (∀ o, PairE w1.heap.size (d + 1) wo.heap.size q (some ⟨k1, o1, none⟩) (some ⟨k2, o2, none⟩) n2 n2 c1 c2 (wr.drew.alloc o)) := fun o => HPD5.out.grow (below_alloc _ _)
                have HPY : Hid (∀ o, PairE w1.heap.size (d + 1) wo.heap.size q (some ⟨k1, o1, none⟩) (some ⟨k2, o2, none⟩) n2 n2 c1 c2 (wr.alloc o).drew) := fun o => (HPQ.out.grow (below_alloc _ _)).grow (Below.refl _ _).drew
                have HR1 : Hid (some wo.heap.size ≠ (Value.slice A3 m3 c3).ownBlock) := by
                  intro e
                  cases A3 with
                  | none => cases e
                  | some a => exact HN3.out a rfl (Option.some.inj e).symm
                have HR2 : Hid (∀ g', (Value.slice A3 m3 c3).ownBlock = some g' → w1.heap.size + 1 ≤ g') := fun g' hg' => (ownsRow_lt HOQ.out hg').1
                have HSX : Hid (∀ o, w1.heap.size + 1 ≤ (wr.drew.alloc o).heap.size) := fun o => by
                  have h1 := HPQ.out.2.1.lt
                  have h2 := HPQ.out.1
                  have h3 : (wr.drew.alloc o).heap.size = wr.heap.size + 1 := (show (wr.alloc o).heap.size = _ by simp)
                  omega
                go_wp2_with fail
                go_region_held3 (fun w' => FlatPE w1.heap.size (d + 1) wo.heap.size q (some ⟨k1, o1, none⟩) (some ⟨k2, o2, none⟩) n2 n2 c1 c2 w')
                  (first | (with_reducible exact HPD5.out.flat) | (with_reducible exact (HPX.out _).flat) | (with_reducible exact (HPY.out _).flat) | (with_reducible exact HP7.out.flat) | go_keep)
                  ((refine step_append_lies _ (by rfl) _ _ _ (by rfl) (w1.heap.size + 1) 119 i0 (.agg #[.pointer none, .pointer none]) 2 16 Try.underlying120 HI.out.1 HI.out.2.1 HI.out.2.2.1 HI.out.2.2.2 (by rfl) (by decide) (.slice A3 m3 c3) m3 ((S' ++ KL.take j).flatMap Pr.vs) (by rfl) (HOD.out.alloc _) ⟨wr.drew.heap.size, 0, none⟩ 1 1 [.pointer (some ⟨k1, o1 + j * 8, none⟩), .pointer (some ⟨k2, o2 + j * 8, none⟩)] (by rfl) (by rfl) (cells_new wr.drew #[.pointer (some ⟨k1, o1 + j * 8, none⟩), .pointer (some ⟨k2, o2 + j * 8, none⟩)] _) (fun x hx => by simp at hx; rcases hx with rfl | rfl <;> rfl) (by decide) (by have := HKN.out; have := HM3.out; have := HL.out; unfold maxLen; omega) (by have := HKN.out; have := HM3.out; have := HL.out; omega) (HSX.out _) (wr.drew.heap.size + 1) (by simp) ?_; intro g9 cap9 w7 hown7 hgr7 hat7 hlt7; have HP7 : Hid (PairE w1.heap.size (d + 1) wo.heap.size q (some ⟨k1, o1, none⟩) (some ⟨k2, o2, none⟩) n2 n2 c1 c2 w7) := (HPX.out _).grown hgr7 HR1.out (fun g' hg' => Nat.le_of_succ_le (HR2.out g' hg'))))
                go_split_ands
                have hn5 := HM1.out
                have hkn5 := HL.out
                unfold maxLen at hn5
                have wk : wrap64 ((j : Int) + 1) = (j : Int) + 1 := by unfold wrap64; omega
                go_wp2_with fail
                go_roundw
                case rel =>
                  have hLj := HL.out
                  have hgr8 : (wr.alloc (.cells #[.pointer (some ⟨k1, o1 + j * 8, none⟩), .pointer (some ⟨k2, o2 + j * 8, none⟩)] 119)).grownBy w7 (Value.slice A3 m3 c3).ownBlock := ⟨hgr7.os, hgr7.tape, hgr7.output, hgr7.size, hgr7.block⟩
                  obtain ⟨xj, hx1⟩ : ∃ t, q.x.kids[j]? = some t := ⟨_, List.getElem?_eq_getElem (by rw [HN1.out]; exact hLj)⟩
                  obtain ⟨yj, hy1⟩ : ∃ t, q.y.kids[j]? = some t := ⟨_, List.getElem?_eq_getElem (by rw [HN2.out]; exact hLj)⟩
                  have hk1 := kidPr_at k1 k2 _ _ o1 o2 j _ _ hx1 hy1
                  rw [HKL.out] at hk1
                  have e1 : (S' ++ KL.take (j + 1)).flatMap Pr.vs = (S' ++ KL.take j).flatMap Pr.vs ++ [.pointer (some ⟨k1, o1 + j * 8, none⟩), .pointer (some ⟨k2, o2 + j * 8, none⟩)] := by
                    rw [take_snoc hk1, ← List.append_assoc, List.flatMap_append]
                    simp [Pr.vs]
                  refine ⟨j + 1, some ⟨g9, 0, none⟩, m3 + 1, cap9, hLj, by go_num, rfl, ?_, ?_, HP7, ?_, ?_, ?_⟩
                  · have := HM3.out
                    show _ = _
                    omega
                  · intro a ha
                    cases ha
                    show g9 ≠ _
                    rcases hat7 with h | h
                    · exact fun e => HR1.out (by rw [h, e])
                    · have := HPQ.out.2.1.lt
                      have e : wr.drew.heap.size = wr.heap.size := rfl
                      omega
                  · exact (HBQ.out.alloc HBQ.out.size _).grown hgr8 (Nat.le_of_succ_le (HSX.out _)) (fun g' hg' => Nat.le_of_succ_le (HR2.out g' hg'))
                  · refine AMap.kept (HAQ.out.below (below_alloc wr _) HAQ.out.lt) hgr8 ?_
                    intro e
                    have := HR2.out _ e.symm
                    omega
                  · rw [e1]
                    exact hown7
                case measure => simp [intOf]; omega
              · have HJ : Hid (j = n2) := by show _ = _; omega
                go_wp2_with fail
                go_roundg (wlN gnN ((S' ++ KL).map Pr.t))
                case measure =>
                  have e1 := H7'.out
                  have e2 := gnWlOk.kid q.x
                  rw [List.map_append, wlN_append, ← HKL.out, kidPr_t, wlN_zip _ _ (by rw [HN1.out, HN2.out])]
                  omega
                case rel =>
                  have hl : KL.length = n2 := by rw [← HKL.out, kidPr_len _ _ _ _ _ _ (by rw [HN1.out, HN2.out]), HN1.out]
                  have hm3 : (S' ++ KL).length = m3 := by
                    have h1 := HM3.out
                    have h2 := HJ.out
                    have h3 := HK.out
                    rw [List.length_append]
                    omega
                  refine ⟨S' ++ KL, C ++ [q], A3, m3, c3, rfl, hm3, ?_⟩
                  refine ⟨HBQ.out, ?_, ?_, HAQ.out, ?_, ?_, Nat.le_refl _, ?_⟩
                  · intro r hr
                    rcases List.mem_append.1 hr with h | h
                    · exact HOS.out r h
                    · exact HOK.out r h
                  · intro r hr
                    rcases List.mem_append.1 hr with h | h
                    · exact H3.out r h
                    · rw [List.mem_singleton.1 h]
                      exact H2.out q (by simp)
                  · have h := HOQ.out
                    rw [HJ.out, List.take_of_length_le (by omega)] at h
                    rw [hm3]
                    exact h
                  · have h := H6'.out.expand HHD.out
                    rw [List.map_append, List.map_append, ← HKL.out, kidPr_t]
                    exact h
                  · have e1 := H7'.out
                    have e2 := gnWlOk.kid q.x
                    have e3 := H8.out
                    rw [List.map_append, wlN_append, ← HKL.out, kidPr_t, wlN_zip _ _ (by rw [HN1.out, HN2.out])]
                    omega
        · unfold Pr.key at hlk
          have HIN2 := Lib.hid hin
          clear hin
          go_wp2_with fail
          go_roundg (wlN gnN (S'.map Pr.t))
          case measure => have := H7'.out; have := gnWlOk.pos q.x; omega
          case rel =>
            refine ⟨S', C, some ⟨g, 0, none⟩, k, c0, rfl, HK.out, ?_⟩
            rw [HK.out]
            exact ⟨HB3.out, HOS.out, H3.out, HA3.out, by rw [HK.out]; exact HO3.out, H6'.out.drop (.inl HIN2.out), Nat.le_refl _, by have := H8.out; have := H7'.out; omega⟩
end Go.Proofs.Ytbaadphgbhaboaa
