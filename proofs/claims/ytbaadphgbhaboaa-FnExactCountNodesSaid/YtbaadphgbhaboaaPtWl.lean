/- Pairs of lists of patterns that wait, the lists that were compared: SamePattern's row and map; plain facts and facts of the world. No condition. -/
import Derived.Test.YtbaadphgbhaboaaWlQ
import Derived.Test.YtbaadphgbhaboaaPtsU
import Derived.Test.YtbaadphgbhaboaaPtSmS
import Derived.Deep.AppendLies
namespace Go.Proofs.Ytbaadphgbhaboaa
open Go Go.RowKit

/-- Equal but for what the Kids are. -/
def Pt.hd (x y : Pt) : Prop := x.k = y.k ∧ x.n = y.n ∧ x.t = y.t ∧ x.kids.length = y.kids.length
mutual
/-- The number of nodes. -/
def ptN : Pt → Nat
  | .node _ _ _ ks => 1 + ptNs ks
def ptNs : List Pt → Nat
  | [] => 0
  | x :: xs => ptN x + ptNs xs
end
mutual
theorem ptN_le : ∀ (x : Pt), ptN x ≤ 1 + ptSz x
  | .node k n t ks => by
    have := ptNs_le ks
    rw [ptN, ptSz]
    omega
theorem ptNs_le : ∀ (l : List Pt), ptNs l ≤ ptSzs l
  | [] => by rw [ptNs]; omega
  | x :: xs => by
    have := ptN_le x
    have := ptNs_le xs
    rw [ptNs, ptSzs]
    omega
end
theorem ptN_eq (x : Pt) : ptN x = 1 + (x.kids.map ptN).sum := by
  obtain ⟨k, n, t, ks⟩ := x
  rw [ptN]
  congr 1
  induction ks with
  | nil => rfl
  | cons a r ih =>
    have e : ptNs (a :: r) = ptN a + ptNs r := by rw [ptNs]
    rw [e]
    simp only [Pt.kids] at ih ⊢
    rw [ih]
    rfl
theorem ptWlOk : WlOk Pt.kids Pt.hd ptN where
  refl _ := ⟨rfl, rfl, rfl, rfl⟩
  ext x y h e := by
    obtain ⟨k, n, t, ks⟩ := x
    obtain ⟨k', n', t', ks'⟩ := y
    obtain ⟨h1, h2, h3, _⟩ := h
    simp only [Pt.k, Pt.n, Pt.t, Pt.kids] at *
    subst h1 h2 h3 e
    rfl
  len _ _ h := h.2.2.2
  pos x := by rw [ptN_eq]; omega
  kid x := by rw [ptN_eq x]; omega

/-- What is read is determined by where it is read. -/
theorem ptU_det {w : World} {B : Nat} : ∀ {d : Nat} {A : Option Addr} {n : Nat} {xs ys : List Pt}, PtU w 0 B d A n xs → PtU w 0 B d A n ys → xs = ys
  | 0, _, _, _, _, h, h' => by rw [h.1, h'.1]
  | d + 1, A, n, xs, ys, h, h' => by
    refine List.ext_getElem? fun j => ?_
    by_cases hj : j < n
    · obtain ⟨b, off, x, A1, n1, c1, e, _, _, _, hx, _, hc, _, hk⟩ := h.at_ hj
      obtain ⟨b2, off2, y, A2, n2, c2, e2, _, _, _, hy, _, hc2, _, hk2⟩ := h'.at_ hj
      rw [e] at e2
      simp only [Option.some.injEq, Addr.mk.injEq, and_true] at e2
      obtain ⟨rfl, rfl⟩ := e2
      obtain ⟨p0, p1, p2, p3⟩ := hc
      obtain ⟨q0, q1, q2, q3⟩ := hc2
      rw [p0] at q0
      rw [p1] at q1
      rw [p2] at q2
      rw [p3] at q3
      simp only [Option.some.injEq, Value.int.injEq, Value.string.injEq, Value.slice.injEq, true_and] at q0 q1 q2 q3
      obtain ⟨rfl, rfl, rfl⟩ := q3
      rw [hx, hy]
      obtain ⟨k, m, t, ks⟩ := x
      obtain ⟨k', m', t', ks'⟩ := y
      have := ptU_det hk hk2
      simp only [Pt.k, Pt.n, Pt.t, Pt.kids] at *
      subst q0 q1 q2 this
      rfl
    · rw [List.getElem?_eq_none (by rw [h.1]; omega), List.getElem?_eq_none (by rw [h'.1]; omega)]
/-- The blocks of cells below B are as they were in w1. -/
def FrG (w1 : World) (B : Nat) (w : World) : Prop := B ≤ w.heap.size ∧ ∀ k, k < B → Good w1 k → w.heap[k]? = w1.heap[k]?
theorem FrG.below {w1 w w' : World} {B : Nat} (h : FrG w1 B w) (hb : Below w.heap.size w w') : FrG w1 B w' :=
  ⟨Nat.le_trans h.1 hb.size, fun k hk hg => (hb.block k (Nat.lt_of_lt_of_le hk h.1)).trans (h.2 k hk hg)⟩
theorem FrG.grown {w1 w w' : World} {B : Nat} {row : Option Nat} (h : FrG w1 B w) (hg : w.grownBy w' row) (hr : ∀ k, row = some k → k < B → ¬ Good w1 k) : FrG w1 B w' := by
  refine ⟨Nat.le_trans h.1 hg.size, fun k hk hG => ?_⟩
  exact (hg.block k (Nat.lt_of_lt_of_le hk h.1) (fun e => hr k e.symm hk hG)).trans (h.2 k hk hG)
theorem FrG.good {w1 w : World} {B k : Nat} (h : FrG w1 B w) (hk : k < B) (hg : Good w1 k) : Good w k := by
  obtain ⟨cs, T, e⟩ := hg
  exact ⟨cs, T, (h.2 k hk ⟨cs, T, e⟩).trans e⟩
theorem PtU.fr {w1 w : World} {B : Nat} (hf : FrG w1 B w) : ∀ {d : Nat} {A : Option Addr} {n : Nat} {xs : List Pt}, PtU w1 0 B d A n xs → PtU w 0 B d A n xs
  | 0, _, _, _, h => h
  | d + 1, A, n, xs, h => ⟨h.1, h.2.1, fun hn => by
    obtain ⟨b, off, e, hl, hg, hG, hc⟩ := h.2.2 hn
    refine ⟨b, off, e, hl, hg, hf.good hg hG, fun j x hx => ?_⟩
    obtain ⟨A', n', c', h1, h2, h3, h4⟩ := hc j x hx
    have k : ∀ i, w.cell? ⟨b, i, none⟩ = w1.cell? ⟨b, i, none⟩ := fun i => World.cell?_of_block (hf.2 b hg hG)
    exact ⟨A', n', c', h1, ⟨(k _).trans h2.1, (k _).trans h2.2.1, (k _).trans h2.2.2.1, (k _).trans h2.2.2.2⟩, h3, PtU.fr hf h4⟩⟩

/-- Two lists of the same length that wait. -/
structure Ls where
  A : Option Addr
  c : Nat
  l : List Pt
  A' : Option Addr
  c' : Nat
  r : List Pt
def Ls.vs (q : Ls) : List Value := [.slice q.A q.l.length q.c, .slice q.A' q.l.length q.c']
def Ls.t (q : Ls) : List (Pt × Pt) := q.l.zip q.r
def Ls.Ok (w : World) (B d : Nat) (q : Ls) : Prop := q.l.length = q.r.length ∧ 0 < q.l.length ∧ PtU w 0 B d q.A q.l.length q.l ∧ PtU w 0 B d q.A' q.l.length q.r
theorem ls_len (S : List Ls) : (S.flatMap Ls.vs).length = S.length * 2 := by
  induction S with
  | nil => rfl
  | cons a r ih =>
    rw [List.flatMap_cons, List.length_append, ih, List.length_cons]
    simp only [Ls.vs, List.length_cons, List.length_nil]
    omega
/-- Two nodes whose Kids were compared, and where these lie. -/
structure Me where
  b : Nat
  p : Nat
  b' : Nat
  p' : Nat
  n : Nat
  x : Pt
  y : Pt
def Me.key (q : Me) : Value := .agg #[.pointer (some ⟨q.b, q.p, none⟩), .pointer (some ⟨q.b', q.p', none⟩), .int .i64 q.n]
def Me.Ok (w : World) (B d : Nat) (q : Me) : Prop := 0 < q.n ∧ PtU w 0 B d (some ⟨q.b, q.p, none⟩) q.n q.x.kids ∧ PtU w 0 B d (some ⟨q.b', q.p', none⟩) q.n q.y.kids
def entsP (C : List Me) : List (Value × Value) := C.map fun q => (q.key, .bool true)
theorem meKey_inj {q r : Me} (h : q.key = r.key) : q.b = r.b ∧ q.p = r.p ∧ q.b' = r.b' ∧ q.p' = r.p' ∧ q.n = r.n := by
  simp only [Me.key, Value.agg.injEq, Array.mk.injEq, List.cons.injEq, Value.pointer.injEq, Option.some.injEq, Addr.mk.injEq, and_true, Value.int.injEq, true_and] at h
  exact ⟨h.1.1, h.1.2, h.2.1.1, h.2.1.2, by omega⟩
theorem getA_entsP (C : List Me) (q : Me) : (getA (entsP C) q.key = none ∧ ∀ r ∈ C, r.key ≠ q.key) ∨ (getA (entsP C) q.key = some (.bool true) ∧ ∃ r ∈ C, r.key = q.key) := by
  induction C with
  | nil => exact .inl ⟨rfl, fun r h => by cases h⟩
  | cons r C ih =>
    by_cases hk : r.key = q.key
    · exact .inr ⟨by simp [getA, entsP, tt_true hk], r, by simp, hk⟩
    · have e : getA (entsP (r :: C)) q.key = getA (entsP C) q.key := by simp [getA, entsP, tt_false hk]
      rw [e]
      rcases ih with ⟨h1, h2⟩ | ⟨h1, s, hs, h2⟩
      · exact .inl ⟨h1, fun s hs => by
          rcases List.mem_cons.1 hs with rfl | hs
          · exact hk
          · exact h2 s hs⟩
      · exact .inr ⟨h1, s, by simp [hs], h2⟩
theorem headU {w : World} {B d n : Nat} {b p : Nat} {xs : List Pt} (h : PtU w 0 B d (some ⟨b, p, none⟩) n xs) (hn : 0 < n) : b < B ∧ Good w b := by
  cases d with
  | zero => exact absurd h.2 (by omega)
  | succ d =>
    obtain ⟨b1, o1, _, _, _, _, e, _, hg, hG, _⟩ := h.at_ hn
    simp only [Option.some.injEq, Addr.mk.injEq, and_true] at e
    obtain ⟨rfl, rfl⟩ := e
    exact ⟨hg, hG⟩

theorem size_nodeP : (Try.prog.info? 29).map (fun i => i.size) = some 4 := by kernel_rfl
theorem under_keyP : Try.prog.underlying 85 = some (.struct (Try.prog.fieldsOf 85)) := by kernel_rfl
theorem run_equal_keyP {w : World} {B d : Nat} {q r : Me} (hq : q.Ok w B d) (hr : r.Ok w B d) : (Op.equal 85 q.key r.key).run Try.prog w = .ok (tt (r.key = q.key)) w := by
  have g1 := (headU hq.2.1 hq.1).2
  have g2 := (headU hq.2.2 hq.1).2
  have g3 := (headU hr.2.1 hr.1).2
  have g4 := (headU hr.2.2 hr.1).2
  obtain ⟨j, hj, hj4⟩ := Option.map_eq_some_iff.1 size_nodeP
  have hjs : j.size ≠ 0 := by omega
  have hp : Try.prog.underlying 83 = some (.pointer 29) := by kernel_rfl
  have e1 := run_equalIn_ptr (P := Try.prog) (w := w) 9998 (a := ⟨q.b, q.p, none⟩) (c := ⟨r.b, r.p, none⟩) hp hj hjs g1 g3
  have e2 := run_equalIn_ptr (P := Try.prog) (w := w) 9998 (a := ⟨q.b', q.p', none⟩) (c := ⟨r.b', r.p', none⟩) hp hj hjs g2 g4
  have e3 : (Op.equalIn 9999 3 (.int .i64 (q.n : Int)) (.int .i64 (r.n : Int))).run Try.prog w = .ok ((q.n : Int) == (r.n : Int)) w := run_equalIn_int w 9998 3 .i64 .i64 _ _ Try.underlying3
  have h := run_equal_three (K := 85) (n0 := "a") (n1 := "b") (n2 := "count") under_keyP (by kernel_rfl) (by kernel_rfl) (by decide) (by decide) (by decide) (fun a b c => by kernel_rfl) (fun a b c => by kernel_rfl) (fun a b c => by kernel_rfl) e1 e2 e3
  have e : tt (r.key = q.key) = (tt ((⟨q.b, q.p, none⟩ : Addr) = ⟨r.b, r.p, none⟩) && (tt ((⟨q.b', q.p', none⟩ : Addr) = ⟨r.b', r.p', none⟩) && ((q.n : Int) == (r.n : Int)))) := by
    rw [Bool.eq_iff_iff, Bool.and_eq_true, Bool.and_eq_true, tt_iff, tt_iff, tt_iff, beq_iff_eq]
    simp only [Me.key, Value.agg.injEq, Array.mk.injEq, List.cons.injEq, Value.pointer.injEq, Option.some.injEq, Addr.mk.injEq, and_true, Value.int.injEq, true_and]
    constructor
    · rintro ⟨⟨h1, h2⟩, ⟨h3, h4⟩, h5⟩; exact ⟨⟨h1.symm, h2.symm⟩, ⟨h3.symm, h4.symm⟩, h5.symm⟩
    · rintro ⟨⟨h1, h2⟩, ⟨h3, h4⟩, h5⟩; exact ⟨⟨h1.symm, h2.symm⟩, ⟨h3.symm, h4.symm⟩, h5.symm⟩
  rw [e]
  exact h
theorem run_check_keyP (w : World) (q : Me) (em : Bool) : (Instr.checkKey em 10000 85 q.key).run Try.prog w = .ok () w := by
  unfold Me.key
  kernel_rfl
theorem lookP {w : World} {B D b : Nat} {C : List Me} {q : Me} (h : AMap w b (entsP C)) (hq : q.Ok w B D) (hC : ∀ r ∈ C, r.Ok w B D) :
    ((Instr.lookup 80 (.map (some b)) q.key false).run Try.prog w = .ok (.bool false) w ∧ ∃ w', (Instr.mapUpdate 80 (.map (some b)) q.key (.bool true)).run Try.prog w = .ok () w' ∧ AMap w' b (entsP (C ++ [q])) ∧ w.grownBy w' (some b) ∧ w'.heap.size = w.heap.size) ∨
    ((Instr.lookup 80 (.map (some b)) q.key false).run Try.prog w = .ok (.bool true) w ∧ ∃ r ∈ C, q.x.kids = r.x.kids ∧ q.y.kids = r.y.kids) := by
  have he : ∀ p ∈ entsP C, (Op.equal 85 q.key p.1).run Try.prog w = .ok (tt (p.1 = q.key)) w := by
    intro p hp
    obtain ⟨r, hr, rfl⟩ := List.mem_map.1 hp
    exact run_equal_keyP hq (hC r hr)
  have hl := (h.look (t := 80) (et := 4) Try.underlying80 under_keyP (z := .bool false) (by kernel_rfl) (run_check_keyP w q) he).1
  rcases getA_entsP C q with ⟨h1, _⟩ | ⟨h1, r, hr, h2⟩
  · rw [h1] at hl
    obtain ⟨w', u1, u2, u3, u4⟩ := h.put (t := 80) (et := 4) Try.underlying80 under_keyP (run_check_keyP w q) he h1 (.bool true)
    refine .inl ⟨hl, w', u1, ?_, u3, u4⟩
    have e : entsP (C ++ [q]) = entsP C ++ [(q.key, .bool true)] := by simp [entsP]
    rw [e]
    exact u2
  · rw [h1] at hl
    refine .inr ⟨hl, r, hr, ?_⟩
    obtain ⟨e1, e2, e3, e4, e5⟩ := meKey_inj h2
    have a := hC r hr
    obtain ⟨_, a1, a2⟩ := a
    obtain ⟨_, q1, q2⟩ := hq
    rw [e1, e2, e5] at a1
    rw [e3, e4, e5] at a2
    exact ⟨ptU_det q1 a1, ptU_det q2 a2⟩
end Go.Proofs.Ytbaadphgbhaboaa
