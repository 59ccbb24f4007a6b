/- Pairs of nodes of two trees in memory, the worklist of SameExpr: its row, its map; plain facts and facts of the world. No condition. -/
import Derived.Test.YtbaadphgbhaboaaWlP
import Derived.Test.YtbaadphgbhaboaaExsU
import Derived.Test.YtbaadphgbhaboaaExSmS
import Derived.Deep.AppendLies
namespace Go.Proofs.Ytbaadphgbhaboaa
open Go Go.RowKit

/-- Equal but for what the Kids are. -/
def Ex.hd (x y : Ex) : Prop := x.k = y.k ∧ x.n = y.n ∧ x.t = y.t ∧ x.kids.length = y.kids.length
mutual
/-- The number of nodes. -/
def exN : Ex → Nat
  | .node _ _ _ ks => 1 + exNs ks
def exNs : List Ex → Nat
  | [] => 0
  | x :: xs => exN x + exNs xs
end
mutual
theorem exN_le : ∀ (x : Ex), exN x ≤ 1 + exSz x
  | .node k n t ks => by
    have := exNs_le ks
    rw [exN, exSz]
    omega
theorem exNs_le : ∀ (l : List Ex), exNs l ≤ exSzs l
  | [] => by rw [exNs]; omega
  | x :: xs => by
    have := exN_le x
    have := exNs_le xs
    rw [exNs, exSzs]
    omega
end
theorem exN_eq (x : Ex) : exN x = 1 + (x.kids.map exN).sum := by
  obtain ⟨k, n, t, ks⟩ := x
  rw [exN]
  congr 1
  induction ks with
  | nil => rfl
  | cons a r ih =>
    have e : exNs (a :: r) = exN a + exNs r := by rw [exNs]
    rw [e]
    simp only [Ex.kids] at ih ⊢
    rw [ih]
    rfl
theorem exWlOk : WlOk Ex.kids Ex.hd exN where
  refl _ := ⟨rfl, rfl, rfl, rfl⟩
  ext x y h e := by
    obtain ⟨k, n, t, ks⟩ := x
    obtain ⟨k', n', t', ks'⟩ := y
    obtain ⟨h1, h2, h3, _⟩ := h
    simp only [Ex.k, Ex.n, Ex.t, Ex.kids] at *
    subst h1 h2 h3 e
    rfl
  len _ _ h := h.2.2.2
  pos x := by rw [exN_eq]; omega
  kid x := by rw [exN_eq x]; omega

/-- A pair of nodes and where they lie. -/
structure Pr where
  b : Nat
  p : Nat
  x : Ex
  b' : Nat
  p' : Nat
  y : Ex
def Pr.t (q : Pr) : Ex × Ex := (q.x, q.y)
def Pr.vs (q : Pr) : List Value := [.pointer (some ⟨q.b, q.p, none⟩), .pointer (some ⟨q.b', q.p', none⟩)]
def Pr.key (q : Pr) : Value := .agg #[.pointer (some ⟨q.b, q.p, none⟩), .pointer (some ⟨q.b', q.p', none⟩)]
/-- A node lies there, in blocks below B. -/
def NdE (w : World) (B d b p : Nat) (x : Ex) (A : Option Addr) (n c : Nat) : Prop := b < B ∧ Good w b ∧ ExAt w b p x A n c ∧ ExUV w 0 B d x A n
def Pr.Ok (w : World) (B d : Nat) (q : Pr) : Prop := (∃ A n c, NdE w B d q.b q.p q.x A n c) ∧ ∃ A n c, NdE w B d q.b' q.p' q.y A n c
theorem NdE.below {w w' : World} {B d b p : Nat} {x : Ex} {A : Option Addr} {n c : Nat} (h : NdE w B d b p x A n c) (hb : Below B w w') : NdE w' B d b p x A n c :=
  ⟨h.1, h.2.1.below hb h.1, h.2.2.1.below hb h.1, h.2.2.2.1, h.2.2.2.2.below hb⟩

/-- The pairs of two lists of Kids. -/
def kidPr (b p b' p' : Nat) : List Ex → List Ex → List Pr
  | x :: r, y :: s => ⟨b, p, x, b', p', y⟩ :: kidPr b (p + 4) b' (p' + 4) r s
  | _, _ => []
theorem kidPr_t (b b' : Nat) : ∀ (l r : List Ex) (p p' : Nat), (kidPr b p b' p' l r).map Pr.t = l.zip r
  | [], _, _, _ => by simp [kidPr]
  | x :: l, [], _, _ => by simp [kidPr]
  | x :: l, y :: r, p, p' => by simp [kidPr, Pr.t, kidPr_t b b' l r]
theorem kidPr_at (b b' : Nat) : ∀ (l r : List Ex) (p p' j : Nat) (x y : Ex), l[j]? = some x → r[j]? = some y → (kidPr b p b' p' l r)[j]? = some ⟨b, p + j * 4, x, b', p' + j * 4, y⟩
  | [], _, _, _, _, _, _, h, _ => by simp at h
  | u :: l, [], _, _, _, _, _, _, h => by simp at h
  | u :: l, v :: r, p, p', 0, x, y, h, h' => by
    simp only [List.getElem?_cons_zero, Option.some.injEq] at h h'
    subst h h'
    simp [kidPr]
  | u :: l, v :: r, p, p', j + 1, x, y, h, h' => by
    simp only [List.getElem?_cons_succ] at h h'
    simp only [kidPr, List.getElem?_cons_succ]
    rw [kidPr_at b b' l r (p + 4) (p' + 4) j x y h h']
    congr 2 <;> omega
theorem kidPr_len (b p b' p' : Nat) (l r : List Ex) (h : l.length = r.length) : (kidPr b p b' p' l r).length = l.length := by
  have := congrArg List.length (kidPr_t b b' l r p p')
  simp only [List.length_map, List.length_zip] at this
  omega
theorem take_snoc {α : Type} {l : List α} {j : Nat} {a : α} (h : l[j]? = some a) : l.take (j + 1) = l.take j ++ [a] := by
  rw [List.take_add_one, h]; rfl

/-- What is read is determined by where it is read. -/
theorem exU_det {w : World} {B : Nat} : ∀ {d : Nat} {A : Option Addr} {n : Nat} {xs ys : List Ex}, ExU w 0 B d A n xs → ExU w 0 B d A n ys → xs = ys
  | 0, _, _, _, _, h, h' => by rw [h.1, h'.1]
  | d + 1, A, n, xs, ys, h, h' => by
    refine List.ext_getElem? fun j => ?_
    by_cases hj : j < n
    · obtain ⟨b, off, x, A1, n1, c1, e, _, _, _, hx, _, hc, _, hk⟩ := h.at_ hj
      obtain ⟨b2, off2, y, A2, n2, c2, e2, _, _, _, hy, _, hc2, _, hk2⟩ := h'.at_ hj
      rw [e] at e2
      simp only [Option.some.injEq, Addr.mk.injEq, and_true] at e2
      obtain ⟨rfl, rfl⟩ := e2
      obtain ⟨p0, p1, p2, p3⟩ := hc
      obtain ⟨q0, q1, q2, q3⟩ := hc2
      rw [p0] at q0
      rw [p1] at q1
      rw [p2] at q2
      rw [p3] at q3
      simp only [Option.some.injEq, Value.int.injEq, Value.string.injEq, Value.slice.injEq, true_and] at q0 q1 q2 q3
      obtain ⟨rfl, rfl, rfl⟩ := q3
      rw [hx, hy]
      obtain ⟨k, m, t, ks⟩ := x
      obtain ⟨k', m', t', ks'⟩ := y
      have := exU_det hk hk2
      simp only [Ex.k, Ex.n, Ex.t, Ex.kids] at *
      subst q0 q1 q2 this
      rfl
    · rw [List.getElem?_eq_none (by rw [h.1]; omega), List.getElem?_eq_none (by rw [h'.1]; omega)]
theorem NdE.det {w : World} {B d b p : Nat} {x y : Ex} {A A' : Option Addr} {n n' c c' : Nat} (h : NdE w B d b p x A n c) (h' : NdE w B d b p y A' n' c') : x = y := by
  obtain ⟨_, _, ⟨p0, p1, p2, p3⟩, _, hk⟩ := h
  obtain ⟨_, _, ⟨q0, q1, q2, q3⟩, _, hk2⟩ := h'
  rw [p0] at q0
  rw [p1] at q1
  rw [p2] at q2
  rw [p3] at q3
  simp only [Option.some.injEq, Value.int.injEq, Value.string.injEq, Value.slice.injEq, true_and] at q0 q1 q2 q3
  obtain ⟨rfl, rfl, rfl⟩ := q3
  obtain ⟨k, m, t, ks⟩ := x
  obtain ⟨k', m', t', ks'⟩ := y
  have := exU_det hk hk2
  simp only [Ex.k, Ex.n, Ex.t, Ex.kids] at *
  subst q0 q1 q2 this
  rfl

/-- The pairs that were compared, as the map's entries. -/
def entsE (C : List Pr) : List (Value × Value) := C.map fun q => (q.key, .bool true)
theorem key_inj {q r : Pr} (h : q.key = r.key) : q.b = r.b ∧ q.p = r.p ∧ q.b' = r.b' ∧ q.p' = r.p' := by
  simp only [Pr.key, Value.agg.injEq, Array.mk.injEq, List.cons.injEq, Value.pointer.injEq, Option.some.injEq, Addr.mk.injEq, and_true] at h
  exact ⟨h.1.1, h.1.2, h.2.1, h.2.2⟩
theorem getA_ents (C : List Pr) (q : Pr) : (getA (entsE C) q.key = none ∧ ∀ r ∈ C, r.key ≠ q.key) ∨ (getA (entsE C) q.key = some (.bool true) ∧ ∃ r ∈ C, r.key = q.key) := by
  induction C with
  | nil => exact .inl ⟨rfl, fun r h => by cases h⟩
  | cons r C ih =>
    by_cases hk : r.key = q.key
    · exact .inr ⟨by simp [getA, entsE, tt_true hk], r, by simp, hk⟩
    · have e : getA (entsE (r :: C)) q.key = getA (entsE C) q.key := by simp [getA, entsE, tt_false hk]
      rw [e]
      rcases ih with ⟨h1, h2⟩ | ⟨h1, s, hs, h2⟩
      · exact .inl ⟨h1, fun s hs => by
          rcases List.mem_cons.1 hs with rfl | hs
          · exact hk
          · exact h2 s hs⟩
      · exact .inr ⟨h1, s, by simp [hs], h2⟩

theorem size_node : (Try.prog.info? 41).map (fun i => i.size) = some 4 := by kernel_rfl
theorem under_key : Try.prog.underlying 101 = some (.struct (Try.prog.fieldsOf 101)) := by kernel_rfl
theorem run_equal_key {w : World} {B d : Nat} {q r : Pr} (hq : q.Ok w B d) (hr : r.Ok w B d) : (Op.equal 101 q.key r.key).run Try.prog w = .ok (tt (r.key = q.key)) w := by
  obtain ⟨⟨_, _, _, _, g1, _⟩, ⟨_, _, _, _, g2, _⟩⟩ := hq
  obtain ⟨⟨_, _, _, _, g3, _⟩, ⟨_, _, _, _, g4, _⟩⟩ := hr
  obtain ⟨j, hj, hj4⟩ := Option.map_eq_some_iff.1 size_node
  have hjs : j.size ≠ 0 := by omega
  have hp : Try.prog.underlying 97 = some (.pointer 41) := by kernel_rfl
  have e1 := run_equalIn_ptr (P := Try.prog) (w := w) 9998 (a := ⟨q.b, q.p, none⟩) (c := ⟨r.b, r.p, none⟩) hp hj hjs g1 g3
  have e2 := run_equalIn_ptr (P := Try.prog) (w := w) 9998 (a := ⟨q.b', q.p', none⟩) (c := ⟨r.b', r.p', none⟩) hp hj hjs g2 g4
  have h := run_equal_two (K := 101) (n0 := "a") (n1 := "b") under_key (by kernel_rfl) (by kernel_rfl) (by decide) (by decide) (fun a b => by kernel_rfl) (fun a b => by kernel_rfl) e1 e2
  have e : tt (r.key = q.key) = (tt ((⟨q.b, q.p, none⟩ : Addr) = ⟨r.b, r.p, none⟩) && tt ((⟨q.b', q.p', none⟩ : Addr) = ⟨r.b', r.p', none⟩)) := by
    rw [Bool.eq_iff_iff, Bool.and_eq_true, tt_iff, tt_iff, tt_iff]
    simp only [Pr.key, Value.agg.injEq, Array.mk.injEq, List.cons.injEq, Value.pointer.injEq, Option.some.injEq, Addr.mk.injEq, and_true]
    constructor
    · rintro ⟨⟨h1, h2⟩, h3, h4⟩; exact ⟨⟨h1.symm, h2.symm⟩, h3.symm, h4.symm⟩
    · rintro ⟨⟨h1, h2⟩, h3, h4⟩; exact ⟨⟨h1.symm, h2.symm⟩, h3.symm, h4.symm⟩
  rw [e]
  exact h
theorem run_check_key (w : World) (q : Pr) (em : Bool) : (Instr.checkKey em 10000 101 q.key).run Try.prog w = .ok () w := by
  unfold Pr.key
  kernel_rfl
end Go.Proofs.Ytbaadphgbhaboaa
