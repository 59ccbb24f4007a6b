/- Counting the nodes of a pattern by a stack of lists: plain facts and facts of the world. No condition. -/
import Derived.Test.YtbaadphgbhaboaaPtWl
namespace Go.Proofs.Ytbaadphgbhaboaa
open Go Go.RowKit

def sN (l : List Pt) : Nat := (l.map ptN).sum
theorem sN_kids (z : Pt) : ptN z = 1 + sN z.kids := ptN_eq z
theorem sN_mem {l : List Pt} {z : Pt} (h : z ∈ l) : ptN z ≤ sN l := sz_mem (sz := ptN) h
theorem sN_take {l : List Pt} {j : Nat} {z : Pt} (h : l[j]? = some z) : sN (l.take (j + 1)) = sN (l.take j) + ptN z := by
  rw [List.take_add_one, h]
  simp [sN]
theorem sN_drop {l : List Pt} {j : Nat} {z : Pt} (h : l[j]? = some z) : sN (l.drop j) = ptN z + sN (l.drop (j + 1)) := by
  obtain ⟨hl, e⟩ := List.getElem?_eq_some_iff.1 h
  rw [List.drop_eq_getElem_cons hl, e]
  simp [sN]
theorem sN_append (l r : List Pt) : sN (l ++ r) = sN l + sN r := by simp [sN]
theorem sN_parts (l : List Pt) (j : Nat) : sN l = sN (l.take j) + sN (l.drop j) := by
  have := sN_append (l.take j) (l.drop j)
  rwa [List.take_append_drop] at this
theorem sN_take_le (l : List Pt) (j : Nat) : sN (l.take j) ≤ sN l := by have := sN_parts l j; omega
theorem sN_drop_le (l : List Pt) (j : Nat) : sN (l.drop j) ≤ sN l := by have := sN_parts l j; omega

/-- A list that is being counted. -/
structure Fm where
  A : Option Addr
  c : Nat
  l : List Pt
  i : Nat
def Fm.vs (f : Fm) : List Value := [.slice f.A f.l.length f.c, .int .i64 f.i, .int .i64 (sN (f.l.take f.i))]
def keyL (A : Option Addr) (n : Nat) : Value := .agg #[.pointer A, .int .i64 n]
def Fm.key (f : Fm) : Value := keyL f.A f.l.length
def Fm.Ok (w : World) (B d : Nat) (f : Fm) : Prop := 0 < f.l.length ∧ f.i ≤ f.l.length ∧ PtU w 0 B d f.A f.l.length f.l
theorem fm_len (S : List Fm) : (S.flatMap Fm.vs).length = S.length * 3 := by
  induction S with
  | nil => rfl
  | cons a r ih =>
    rw [List.flatMap_cons, List.length_append, ih, List.length_cons]
    simp only [Fm.vs, List.length_cons, List.length_nil]
    omega
/-- The node that f is at lies in memory, its Kids at A'. -/
def CurAt (w : World) (f : Fm) (z : Pt) (A' : Option Addr) (n' c' : Nat) : Prop := f.l[f.i]? = some z ∧ ∃ b o, f.A = some ⟨b, o, none⟩ ∧ PtAt w b (o + f.i * 4) z A' n' c'
theorem CurAt.det {w : World} {f : Fm} {z z' : Pt} {A A' : Option Addr} {n n' c c' : Nat} (h : CurAt w f z A n c) (h' : CurAt w f z' A' n' c') : z = z' ∧ A = A' ∧ n = n' ∧ c = c' := by
  obtain ⟨h1, b, o, e, h2⟩ := h
  obtain ⟨h3, b', o', e', h4⟩ := h'
  rw [h1] at h3
  rw [e] at e'
  simp only [Option.some.injEq, Addr.mk.injEq, and_true] at h3 e'
  obtain ⟨rfl, rfl⟩ := e'
  have := h2.2.2.2.symm.trans h4.2.2.2
  simp only [Option.some.injEq, Value.slice.injEq] at this
  exact ⟨h3, this⟩
def Link (w : World) (f g : Fm) : Prop := ∃ z n' c', CurAt w f z g.A n' c' ∧ g.l = z.kids ∧ n' = g.l.length
def Chn (w : World) : Fm → List Fm → Prop
  | _, [] => True
  | T, f :: R => Link w f T ∧ Chn w f R
def Fnd (kvs : List (Value × Value)) : Fm → List Fm → Prop
  | _, [] => True
  | T, f :: R => getA kvs T.key ≠ none ∧ Fnd kvs f R
theorem chn_sum {w : World} : ∀ {R : List Fm} {T : Fm}, Chn w T R → ∀ f ∈ R, sN T.l < sN f.l
  | [], _, _, _, h => by cases h
  | g :: R, T, h, f, hf => by
    obtain ⟨⟨z, n', c', h1, h2, _⟩, h3⟩ := h
    have e : sN T.l < sN g.l := by
      have := sN_mem (List.mem_of_getElem? h1.1)
      have := sN_kids z
      rw [h2]
      omega
    rcases List.mem_cons.1 hf with rfl | hf
    · exact e
    · exact Nat.lt_trans e (chn_sum h3 f hf)

/-- A list in memory that may be a key. -/
structure Ky where
  A : Option Addr
  n : Nat
  l : List Pt
def Ky.key (e : Ky) : Value := keyL e.A e.n
def Ky.Ok (w : World) (B d : Nat) (e : Ky) : Prop := 0 < e.n ∧ PtU w 0 B d e.A e.n e.l
theorem Ky.Ok.addr {w : World} {B d : Nat} {e : Ky} (h : e.Ok w B d) : ∃ b o, e.A = some ⟨b, o, none⟩ ∧ b < B ∧ Good w b := by
  cases d with
  | zero => exact absurd h.2.2 (by have := h.1; omega)
  | succ d =>
    obtain ⟨b1, o1, _, _, _, _, e1, _, hg, hG, _⟩ := h.2.at_ h.1
    exact ⟨b1, o1, e1, hg, hG⟩
theorem ky_det {w : World} {B d : Nat} {e e' : Ky} (h : e.Ok w B d) (h' : e'.Ok w B d) (hk : e.key = e'.key) : e.l = e'.l := by
  simp only [Ky.key, keyL, Value.agg.injEq, Array.mk.injEq, List.cons.injEq, Value.pointer.injEq, and_true, Value.int.injEq, true_and] at hk
  obtain ⟨h1, h2⟩ := hk
  have h3 : e.n = e'.n := by omega
  have k := h.2
  have k' := h'.2
  rw [h1, h3] at k
  exact ptU_det k k'
theorem Ky.Ok.fr {w1 w : World} {B d : Nat} {e : Ky} (h : e.Ok w1 B d) (hf : FrG w1 B w) : e.Ok w B d := ⟨h.1, h.2.fr hf⟩

theorem under_keyC : Try.prog.underlying 94 = some (.struct (Try.prog.fieldsOf 94)) := by kernel_rfl
theorem run_equal_keyC {w : World} {B d : Nat} {q r : Ky} (hq : q.Ok w B d) (hr : r.Ok w B d) : (Op.equal 94 q.key r.key).run Try.prog w = .ok (tt (r.key = q.key)) w := by
  obtain ⟨b, o, ea, _, g1⟩ := hq.addr
  obtain ⟨b', o', eb, _, g2⟩ := hr.addr
  obtain ⟨A, n, l⟩ := q
  obtain ⟨A', n', l'⟩ := r
  dsimp only at ea eb
  subst ea eb
  obtain ⟨j, hj, hj4⟩ := Option.map_eq_some_iff.1 size_nodeP
  have hjs : j.size ≠ 0 := by omega
  have hp : Try.prog.underlying 83 = some (.pointer 29) := by kernel_rfl
  have e1 := run_equalIn_ptr (P := Try.prog) (w := w) 9998 (a := ⟨b, o, none⟩) (c := ⟨b', o', none⟩) hp hj hjs g1 g2
  have e2 : (Op.equalIn 9999 3 (.int .i64 (n : Int)) (.int .i64 (n' : Int))).run Try.prog w = .ok ((n : Int) == (n' : Int)) w := run_equalIn_int w 9998 3 .i64 .i64 _ _ Try.underlying3
  have h := run_equal_two (K := 94) (n0 := "first") (n1 := "count") under_keyC (by kernel_rfl) (by kernel_rfl) (by decide) (by decide) (fun a b => by kernel_rfl) (fun a b => by kernel_rfl) e1 e2
  have e : tt (Ky.key ⟨some ⟨b', o', none⟩, n', l'⟩ = Ky.key ⟨some ⟨b, o, none⟩, n, l⟩) = (tt ((⟨b, o, none⟩ : Addr) = ⟨b', o', none⟩) && ((n : Int) == (n' : Int))) := by
    rw [Bool.eq_iff_iff, Bool.and_eq_true, tt_iff, tt_iff, beq_iff_eq]
    simp only [Ky.key, keyL, Value.agg.injEq, Array.mk.injEq, List.cons.injEq, Value.pointer.injEq, Option.some.injEq, Addr.mk.injEq, and_true, Value.int.injEq, true_and]
    constructor
    · rintro ⟨⟨h1, h2⟩, h3⟩; exact ⟨⟨h1.symm, h2.symm⟩, h3.symm⟩
    · rintro ⟨⟨h1, h2⟩, h3⟩; exact ⟨⟨h1.symm, h2.symm⟩, h3.symm⟩
  rw [e]
  exact h
theorem run_check_keyC (w : World) (A : Option Addr) (n : Nat) (em : Bool) : (Instr.checkKey em 10000 94 (keyL A n)).run Try.prog w = .ok () w := by
  unfold keyL
  kernel_rfl
theorem getA_append (kvs : List (Value × Value)) (k v : Value) (hno : getA kvs k = none) (k' : Value) : getA (kvs ++ [(k, v)]) k' = if tt (k = k') then some v else getA kvs k' := by
  unfold getA at hno ⊢
  rw [List.find?_append]
  by_cases hk : k = k'
  · subst hk
    rw [Option.map_eq_none_iff] at hno
    rw [hno]
    simp [tt_true]
  · simp [tt_false hk]
theorem getA_set (k v : Value) : ∀ (kvs : List (Value × Value)), getA kvs k ≠ none → ∀ k', getA (setA kvs k v) k' = if tt (k = k') then some v else getA kvs k'
  | [], h, _ => absurd rfl h
  | p :: r, h, k' => by
    by_cases hp : p.1 = k
    · have e : setA (p :: r) k v = (k, v) :: r := by simp [setA, tt_true hp]
      rw [e]
      by_cases hk : k = k'
      · simp [getA, tt_true hk]
      · have hp' : ¬ p.1 = k' := by rw [hp]; exact hk
        simp [getA, tt_false hk, tt_false hp']
    · have e : setA (p :: r) k v = p :: setA r k v := by simp [setA, tt_false hp]
      have h' : getA r k ≠ none := by
        intro h0
        apply h
        simpa [getA, tt_false hp] using h0
      rw [e]
      have ih := getA_set k v r h' k'
      by_cases hk' : p.1 = k'
      · have hk : ¬ k = k' := fun e => hp (hk'.trans e.symm)
        simp [getA, tt_true hk', tt_false hk]
      · have e2 : getA (p :: setA r k v) k' = getA (setA r k v) k' := by simp [getA, tt_false hk']
        have e3 : getA (p :: r) k' = getA r k' := by simp [getA, tt_false hk']
        rw [e2, e3, ih]
theorem setA_keys (k v : Value) (Q : Value → Prop) (hk : Q k) : ∀ (kvs : List (Value × Value)), (∀ p ∈ kvs, Q p.1) → ∀ p ∈ setA kvs k v, Q p.1
  | [], _, p, h => by cases h
  | a :: r, h, p, hp => by
    by_cases ha : a.1 = k
    · rw [show setA (a :: r) k v = (k, v) :: r from by simp [setA, tt_true ha]] at hp
      rcases List.mem_cons.1 hp with rfl | hp
      · exact hk
      · exact h p (by simp [hp])
    · rw [show setA (a :: r) k v = a :: setA r k v from by simp [setA, tt_false ha]] at hp
      rcases List.mem_cons.1 hp with rfl | hp
      · exact h p (by simp)
      · exact setA_keys k v Q hk r (fun q hq => h q (by simp [hq])) p hp
theorem fnd_mono {kvs kvs' : List (Value × Value)} (h : ∀ k, getA kvs k ≠ none → getA kvs' k ≠ none) : ∀ {R : List Fm} {T : Fm}, Fnd kvs T R → Fnd kvs' T R
  | [], _, _ => trivial
  | _ :: _, _, ⟨h1, h2⟩ => ⟨h _ h1, fnd_mono h h2⟩

/-- How much is still to be done. -/
def phi1 (f : Fm) (back : Bool) : Nat := if back then 3 * sN (f.l.drop (f.i + 1)) + 2 else 3 * sN (f.l.drop f.i) + 1
def phiR (R : List Fm) : Nat := (R.map fun f => 3 * sN (f.l.drop (f.i + 1)) + 2).sum
end Go.Proofs.Ytbaadphgbhaboaa
