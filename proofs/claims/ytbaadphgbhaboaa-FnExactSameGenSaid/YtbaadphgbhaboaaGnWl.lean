/- Pairs of nodes of two trees in memory, the worklist of SameGen: its row, its map; plain facts and facts of the world. No condition. -/
import Derived.Test.YtbaadphgbhaboaaWlP
import Derived.Test.YtbaadphgbhaboaaGnsU
import Derived.Test.YtbaadphgbhaboaaGnSmS
import Derived.Deep.AppendLies
namespace Go.Proofs.Ytbaadphgbhaboaa
open Go Go.RowKit

/-- Equal but for what the Kids are. -/
def Gn.hd (x y : Gn) : Prop := x.k = y.k ∧ x.n = y.n ∧ x.t = y.t ∧ x.vk = y.vk ∧ x.vn = y.vn ∧ x.vt = y.vt ∧ x.vr = y.vr ∧ x.kids.length = y.kids.length
mutual
/-- The number of nodes. -/
def gnN : Gn → Nat
  | .node _ _ _ _ _ _ _ ks => 1 + gnNs ks
def gnNs : List Gn → Nat
  | [] => 0
  | x :: xs => gnN x + gnNs xs
end
mutual
theorem gnN_le : ∀ (x : Gn), gnN x ≤ 1 + gnSz x
  | .node k n t vk vn vt vr ks => by
    have := gnNs_le ks
    rw [gnN, gnSz]
    omega
theorem gnNs_le : ∀ (l : List Gn), gnNs l ≤ gnSzs l
  | [] => by rw [gnNs]; omega
  | x :: xs => by
    have := gnN_le x
    have := gnNs_le xs
    rw [gnNs, gnSzs]
    omega
end
theorem gnN_eq (x : Gn) : gnN x = 1 + (x.kids.map gnN).sum := by
  obtain ⟨k, n, t, vk, vn, vt, vr, ks⟩ := x
  rw [gnN]
  congr 1
  induction ks with
  | nil => rfl
  | cons a r ih =>
    have e : gnNs (a :: r) = gnN a + gnNs r := by rw [gnNs]
    rw [e]
    simp only [Gn.kids] at ih ⊢
    rw [ih]
    rfl
theorem gnWlOk : WlOk Gn.kids Gn.hd gnN where
  refl _ := ⟨rfl, rfl, rfl, rfl, rfl, rfl, rfl, rfl⟩
  ext x y h e := by
    obtain ⟨a0, a1, a2, a3, a4, a5, a6, a7⟩ := x
    obtain ⟨b0, b1, b2, b3, b4, b5, b6, b7⟩ := y
    obtain ⟨h0, h1, h2, h3, h4, h5, h6, _⟩ := h
    simp only [Gn.k, Gn.n, Gn.t, Gn.vk, Gn.vn, Gn.vt, Gn.vr, Gn.kids] at *
    subst h0 h1 h2 h3 h4 h5 h6 e
    rfl
  len _ _ h := h.2.2.2.2.2.2.2
  pos x := by rw [gnN_eq]; omega
  kid x := by rw [gnN_eq x]; omega

/-- A pair of nodes and where they lie. -/
structure Pr where
  b : Nat
  p : Nat
  x : Gn
  b' : Nat
  p' : Nat
  y : Gn
def Pr.t (q : Pr) : Gn × Gn := (q.x, q.y)
def Pr.vs (q : Pr) : List Value := [.pointer (some ⟨q.b, q.p, none⟩), .pointer (some ⟨q.b', q.p', none⟩)]
def Pr.key (q : Pr) : Value := .agg #[.pointer (some ⟨q.b, q.p, none⟩), .pointer (some ⟨q.b', q.p', none⟩)]
/-- A node lies there, in blocks below B. -/
def NdE (w : World) (B d b p : Nat) (x : Gn) (A : Option Addr) (n c : Nat) : Prop := b < B ∧ Good w b ∧ GnAt w b p x A n c ∧ GnUV w 0 B d x A n
def Pr.Ok (w : World) (B d : Nat) (q : Pr) : Prop := (∃ A n c, NdE w B d q.b q.p q.x A n c) ∧ ∃ A n c, NdE w B d q.b' q.p' q.y A n c
theorem NdE.below {w w' : World} {B d b p : Nat} {x : Gn} {A : Option Addr} {n c : Nat} (h : NdE w B d b p x A n c) (hb : Below B w w') : NdE w' B d b p x A n c :=
  ⟨h.1, h.2.1.below hb h.1, h.2.2.1.below hb h.1, h.2.2.2.1, h.2.2.2.2.below hb⟩

/-- The pairs of two lists of Kids. -/
def kidPr (b p b' p' : Nat) : List Gn → List Gn → List Pr
  | x :: r, y :: s => ⟨b, p, x, b', p', y⟩ :: kidPr b (p + 8) b' (p' + 8) r s
  | _, _ => []
theorem kidPr_t (b b' : Nat) : ∀ (l r : List Gn) (p p' : Nat), (kidPr b p b' p' l r).map Pr.t = l.zip r
  | [], _, _, _ => by simp [kidPr]
  | x :: l, [], _, _ => by simp [kidPr]
  | x :: l, y :: r, p, p' => by simp [kidPr, Pr.t, kidPr_t b b' l r]
theorem kidPr_at (b b' : Nat) : ∀ (l r : List Gn) (p p' j : Nat) (x y : Gn), l[j]? = some x → r[j]? = some y → (kidPr b p b' p' l r)[j]? = some ⟨b, p + j * 8, x, b', p' + j * 8, y⟩
  | [], _, _, _, _, _, _, h, _ => by simp at h
  | u :: l, [], _, _, _, _, _, _, h => by simp at h
  | u :: l, v :: r, p, p', 0, x, y, h, h' => by
    simp only [List.getElem?_cons_zero, Option.some.injEq] at h h'
    subst h h'
    simp [kidPr]
  | u :: l, v :: r, p, p', j + 1, x, y, h, h' => by
    simp only [List.getElem?_cons_succ] at h h'
    simp only [kidPr, List.getElem?_cons_succ]
    rw [kidPr_at b b' l r (p + 8) (p' + 8) j x y h h']
    congr 2 <;> omega
theorem kidPr_len (b p b' p' : Nat) (l r : List Gn) (h : l.length = r.length) : (kidPr b p b' p' l r).length = l.length := by
  have := congrArg List.length (kidPr_t b b' l r p p')
  simp only [List.length_map, List.length_zip] at this
  omega
theorem take_snoc {α : Type} {l : List α} {j : Nat} {a : α} (h : l[j]? = some a) : l.take (j + 1) = l.take j ++ [a] := by
  rw [List.take_add_one, h]; rfl

/-- What is read is determined by where it is read. -/
theorem gnU_det {w : World} {B : Nat} : ∀ {d : Nat} {A : Option Addr} {n : Nat} {xs ys : List Gn}, GnU w 0 B d A n xs → GnU w 0 B d A n ys → xs = ys
  | 0, _, _, _, _, h, h' => by rw [h.1, h'.1]
  | d + 1, A, n, xs, ys, h, h' => by
    refine List.ext_getElem? fun j => ?_
    by_cases hj : j < n
    · obtain ⟨b, off, x, A1, n1, c1, e, _, _, _, hx, _, hc, _, hk⟩ := h.at_ hj
      obtain ⟨b2, off2, y, A2, n2, c2, e2, _, _, _, hy, _, hc2, _, hk2⟩ := h'.at_ hj
      rw [e] at e2
      simp only [Option.some.injEq, Addr.mk.injEq, and_true] at e2
      obtain ⟨rfl, rfl⟩ := e2
      obtain ⟨p0, p1, p2, p3, p4, p5, p6, p7⟩ := hc
      obtain ⟨q0, q1, q2, q3, q4, q5, q6, q7⟩ := hc2
      rw [p0] at q0
      rw [p1] at q1
      rw [p2] at q2
      rw [p3] at q3
      rw [p4] at q4
      rw [p5] at q5
      rw [p6] at q6
      rw [p7] at q7
      simp only [Option.some.injEq, Value.int.injEq, Value.string.injEq, Value.slice.injEq, true_and] at q0 q1 q2 q3 q4 q5 q6 q7
      obtain ⟨rfl, rfl, rfl⟩ := q7
      rw [hx, hy]
      obtain ⟨a0, a1, a2, a3, a4, a5, a6, a7⟩ := x
      obtain ⟨b0, b1, b2, b3, b4, b5, b6, b7⟩ := y
      have := gnU_det hk hk2
      simp only [Gn.k, Gn.n, Gn.t, Gn.vk, Gn.vn, Gn.vt, Gn.vr, Gn.kids] at *
      subst q0 q1 q2 q3 q4 q5 q6 this
      rfl
    · rw [List.getElem?_eq_none (by rw [h.1]; omega), List.getElem?_eq_none (by rw [h'.1]; omega)]
theorem NdE.det {w : World} {B d b p : Nat} {x y : Gn} {A A' : Option Addr} {n n' c c' : Nat} (h : NdE w B d b p x A n c) (h' : NdE w B d b p y A' n' c') : x = y := by
  obtain ⟨_, _, hc, _, hk⟩ := h
  obtain ⟨_, _, hc2, _, hk2⟩ := h'
  obtain ⟨p0, p1, p2, p3, p4, p5, p6, p7⟩ := hc
  obtain ⟨q0, q1, q2, q3, q4, q5, q6, q7⟩ := hc2
  rw [p0] at q0
  rw [p1] at q1
  rw [p2] at q2
  rw [p3] at q3
  rw [p4] at q4
  rw [p5] at q5
  rw [p6] at q6
  rw [p7] at q7
  simp only [Option.some.injEq, Value.int.injEq, Value.string.injEq, Value.slice.injEq, true_and] at q0 q1 q2 q3 q4 q5 q6 q7
  obtain ⟨rfl, rfl, rfl⟩ := q7
  obtain ⟨a0, a1, a2, a3, a4, a5, a6, a7⟩ := x
  obtain ⟨b0, b1, b2, b3, b4, b5, b6, b7⟩ := y
  have := gnU_det hk hk2
  simp only [Gn.k, Gn.n, Gn.t, Gn.vk, Gn.vn, Gn.vt, Gn.vr, Gn.kids] at *
  subst q0 q1 q2 q3 q4 q5 q6 this
  rfl

/-- The pairs that were compared, as the map's entries. -/
def entsE (C : List Pr) : List (Value × Value) := C.map fun q => (q.key, .bool true)
theorem key_inj {q r : Pr} (h : q.key = r.key) : q.b = r.b ∧ q.p = r.p ∧ q.b' = r.b' ∧ q.p' = r.p' := by
  simp only [Pr.key, Value.agg.injEq, Array.mk.injEq, List.cons.injEq, Value.pointer.injEq, Option.some.injEq, Addr.mk.injEq, and_true] at h
  exact ⟨h.1.1, h.1.2, h.2.1, h.2.2⟩
theorem getA_ents (C : List Pr) (q : Pr) : (getA (entsE C) q.key = none ∧ ∀ r ∈ C, r.key ≠ q.key) ∨ (getA (entsE C) q.key = some (.bool true) ∧ ∃ r ∈ C, r.key = q.key) := by
  induction C with
  | nil => exact .inl ⟨rfl, fun r h => by cases h⟩
  | cons r C ih =>
    by_cases hk : r.key = q.key
    · exact .inr ⟨by simp [getA, entsE, tt_true hk], r, by simp, hk⟩
    · have e : getA (entsE (r :: C)) q.key = getA (entsE C) q.key := by simp [getA, entsE, tt_false hk]
      rw [e]
      rcases ih with ⟨h1, h2⟩ | ⟨h1, s, hs, h2⟩
      · exact .inl ⟨h1, fun s hs => by
          rcases List.mem_cons.1 hs with rfl | hs
          · exact hk
          · exact h2 s hs⟩
      · exact .inr ⟨h1, s, by simp [hs], h2⟩

theorem size_node : (Try.prog.info? 75).map (fun i => i.size) = some 8 := by kernel_rfl
theorem under_key : Try.prog.underlying 119 = some (.struct (Try.prog.fieldsOf 119)) := by kernel_rfl
theorem run_equal_key {w : World} {B d : Nat} {q r : Pr} (hq : q.Ok w B d) (hr : r.Ok w B d) : (Op.equal 119 q.key r.key).run Try.prog w = .ok (tt (r.key = q.key)) w := by
  obtain ⟨⟨_, _, _, _, g1, _⟩, ⟨_, _, _, _, g2, _⟩⟩ := hq
  obtain ⟨⟨_, _, _, _, g3, _⟩, ⟨_, _, _, _, g4, _⟩⟩ := hr
  obtain ⟨j, hj, hj4⟩ := Option.map_eq_some_iff.1 size_node
  have hjs : j.size ≠ 0 := by omega
  have hp : Try.prog.underlying 114 = some (.pointer 75) := by kernel_rfl
  have e1 := run_equalIn_ptr (P := Try.prog) (w := w) 9998 (a := ⟨q.b, q.p, none⟩) (c := ⟨r.b, r.p, none⟩) hp hj hjs g1 g3
  have e2 := run_equalIn_ptr (P := Try.prog) (w := w) 9998 (a := ⟨q.b', q.p', none⟩) (c := ⟨r.b', r.p', none⟩) hp hj hjs g2 g4
  have h := run_equal_two (K := 119) (n0 := "a") (n1 := "b") under_key (by kernel_rfl) (by kernel_rfl) (by decide) (by decide) (fun a b => by kernel_rfl) (fun a b => by kernel_rfl) e1 e2
  have e : tt (r.key = q.key) = (tt ((⟨q.b, q.p, none⟩ : Addr) = ⟨r.b, r.p, none⟩) && tt ((⟨q.b', q.p', none⟩ : Addr) = ⟨r.b', r.p', none⟩)) := by
    rw [Bool.eq_iff_iff, Bool.and_eq_true, tt_iff, tt_iff, tt_iff]
    simp only [Pr.key, Value.agg.injEq, Array.mk.injEq, List.cons.injEq, Value.pointer.injEq, Option.some.injEq, Addr.mk.injEq, and_true]
    constructor
    · rintro ⟨⟨h1, h2⟩, h3, h4⟩; exact ⟨⟨h1.symm, h2.symm⟩, h3.symm, h4.symm⟩
    · rintro ⟨⟨h1, h2⟩, h3, h4⟩; exact ⟨⟨h1.symm, h2.symm⟩, h3.symm, h4.symm⟩
  rw [e]
  exact h
theorem run_check_key (w : World) (q : Pr) (em : Bool) : (Instr.checkKey em 10000 119 q.key).run Try.prog w = .ok () w := by
  unfold Pr.key
  kernel_rfl
end Go.Proofs.Ytbaadphgbhaboaa
