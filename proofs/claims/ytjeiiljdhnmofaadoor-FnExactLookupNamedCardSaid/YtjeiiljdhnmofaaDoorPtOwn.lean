/- Trees of Pattern of one's own: no two nodes share memory; their blocks lie from lo up to hi. No condition. -/
import Derived.Test.YtjeiiljdhnmofaaDoorPtPlain
import Derived.Test.YtjeiiljdhnmofaaDoorMark
namespace Go.Proofs.YtjeiiljdhnmofaaDoor
open Go Go.RowKit

/-- What lies outside of the blocks from lo up to hi has not turned. -/
structure KeepO (lo hi : Nat) (W w' : World) : Prop where
  os : w'.os = W.os
  tape : w'.tape = W.tape
  output : w'.output = W.output
  size : W.heap.size ≤ w'.heap.size
  block : ∀ k, k < W.heap.size → (k < lo ∨ hi ≤ k) → w'.heap[k]? = W.heap[k]?
theorem KeepO.refl (lo hi : Nat) (W : World) : KeepO lo hi W W := ⟨rfl, rfl, rfl, Nat.le_refl _, fun _ _ _ => rfl⟩
theorem KeepO.trans {lo hi : Nat} {X Y Z : World} (h : KeepO lo hi X Y) (k : KeepO lo hi Y Z) : KeepO lo hi X Z :=
  ⟨k.os.trans h.os, k.tape.trans h.tape, k.output.trans h.output, Nat.le_trans h.size k.size, fun i hi ho => (k.block i (Nat.lt_of_lt_of_le hi h.size) ho).trans (h.block i hi ho)⟩
theorem KeepO.of_below {lo hi : Nat} {W w' : World} (h : Below W.heap.size W w') : KeepO lo hi W w' := ⟨h.os, h.tape, h.output, h.size, fun k hk _ => h.block k hk⟩
theorem KeepO.mono {lo hi lo' hi' : Nat} {W w' : World} (h : KeepO lo hi W w') (h1 : lo' ≤ lo) (h2 : hi ≤ hi') : KeepO lo' hi' W w' := ⟨h.os, h.tape, h.output, h.size, fun k hk ho => h.block k hk (by omega)⟩
theorem KeepO.set {lo hi : Nat} (W : World) {p : Addr} (h1 : lo ≤ p.block) (h2 : p.block < hi) (v : Value) : KeepO lo hi W (W.setCell p v) :=
  ⟨rfl, rfl, rfl, by rw [size_set]; exact Nat.le_refl _, fun k _ ho => Below.heap_setCell W p v k (by omega)⟩
theorem KeepO.below {lo hi B : Nat} {W w' : World} (h : KeepO lo hi W w') (hB : B ≤ lo) (hs : B ≤ W.heap.size) : Below B W w' := ⟨h.os, h.tape, h.output, h.size, fun k hk => h.block k (by omega) (.inl (by omega))⟩
theorem KeepO.row {lo hi g : Nat} {T : TypeId} {cs : Array Value} {W w' : World} (h : KeepO lo hi W w') (hr : RW T W g cs) (hg : g < lo ∨ hi ≤ g) : RW T w' g cs := (h.block g hr.lt hg).trans hr

/-- A row of cells holds x at place j. -/
def Row4 (cs : Array Value) (j : Nat) (x : Pt) (A : Option Addr) (n c : Nat) : Prop := ∀ (q : Nat) (v : Value), (x.vs A n c)[q]? = some v → cs[j * 4 + q]? = some v
/-- A slice of trees of one's own, of depth at most d: its row at the head, the Kids' rows behind it, one behind the other. -/
def PtO (w : World) : Nat → Nat → Nat → Option Addr → Nat → List Pt → Prop
  | 0, _, _, _, n, xs => xs = [] ∧ n = 0
  | d + 1, lo, hi, A, n, xs => xs.length = n ∧ n ≤ maxLen ∧ (0 < n → ∃ (g : Nat) (cs : Array Value) (ls : Nat → Nat), A = some ⟨g, 0, none⟩ ∧ lo ≤ g ∧ g < ls 0 ∧ ls n ≤ hi ∧ (∀ j, j < n → ls j ≤ ls (j + 1)) ∧ RW 29 w g cs ∧ n * 4 ≤ cs.size ∧
      ∀ (j : Nat) (x : Pt), xs[j]? = some x → ∃ (A' : Option Addr) (n' c' : Nat), n' ≤ c' ∧ Row4 cs j x A' n' c' ∧ x.t.size ≤ maxLen ∧ PtO w d (ls j) (ls (j + 1)) A' n' x.kids)
theorem ls_mono {ls : Nat → Nat} {n : Nat} (h : ∀ j, j < n → ls j ≤ ls (j + 1)) : ∀ {b a : Nat}, a ≤ b → b ≤ n → ls a ≤ ls b
  | 0, a, h1, _ => by obtain rfl : a = 0 := by omega
                      exact Nat.le_refl _
  | b + 1, a, h1, h2 => by
    by_cases e : a = b + 1
    · rw [e]; exact Nat.le_refl _
    · exact Nat.le_trans (ls_mono h (show a ≤ b by omega) (by omega)) (h b (by omega))
theorem PtO.len {w : World} : ∀ {d lo hi : Nat} {A : Option Addr} {n : Nat} {xs : List Pt}, PtO w d lo hi A n xs → xs.length = n ∧ n ≤ maxLen
  | 0, _, _, _, _, _, h => by obtain ⟨rfl, rfl⟩ := h; exact ⟨rfl, Nat.zero_le _⟩
  | _ + 1, _, _, _, _, _, h => ⟨h.1, h.2.1⟩
theorem PtO.mono {w : World} : ∀ {d lo hi lo' hi' : Nat} {A : Option Addr} {n : Nat} {xs : List Pt}, PtO w d lo hi A n xs → lo' ≤ lo → hi ≤ hi' → PtO w d lo' hi' A n xs
  | 0, _, _, _, _, _, _, _, h, _, _ => h
  | d + 1, lo, hi, lo', hi', A, n, xs, h, h1, h2 => ⟨h.1, h.2.1, fun hn => by
    obtain ⟨g, cs, ls, e, k1, k2, k3, k4, k5⟩ := h.2.2 hn
    exact ⟨g, cs, ls, e, by omega, k2, by omega, k4, k5⟩⟩
theorem PtO.keep {w w' : World} {a b : Nat} (hk : KeepO a b w w') : ∀ {d lo hi : Nat} {A : Option Addr} {n : Nat} {xs : List Pt}, PtO w d lo hi A n xs → (hi ≤ a ∨ b ≤ lo) → PtO w' d lo hi A n xs
  | 0, _, _, _, _, _, h, _ => h
  | d + 1, lo, hi, A, n, xs, h, hd => ⟨h.1, h.2.1, fun hn => by
    obtain ⟨g, cs, ls, e, k1, k2, k3, k4, k5, k6, k7⟩ := h.2.2 hn
    have h0n := ls_mono k4 (show 0 ≤ n by omega) (Nat.le_refl _)
    refine ⟨g, cs, ls, e, k1, k2, k3, k4, hk.row k5 (by omega), k6, fun j x hx => ?_⟩
    obtain ⟨A', n', c', m1, m2, m3, m4⟩ := k7 j x hx
    have hj : j < n := by have := (List.getElem?_eq_some_iff.1 hx).1; have := h.1; omega
    have q1 := ls_mono k4 (show 0 ≤ j by omega) (by omega)
    have q2 := ls_mono k4 (show j + 1 ≤ n by omega) (Nat.le_refl _)
    exact ⟨A', n', c', m1, m2, m3, PtO.keep hk m4 (by omega)⟩⟩
theorem PtO.below {w w' : World} {B d lo hi n : Nat} {A : Option Addr} {xs : List Pt} (h : PtO w d lo hi A n xs) (hb : Below B w w') (hB : hi ≤ B) (hs : B ≤ w.heap.size) : PtO w' d lo hi A n xs :=
  h.keep (a := B) (b := w.heap.size) ⟨hb.os, hb.tape, hb.output, hb.size, fun k hk ho => hb.block k (by omega)⟩ (.inl hB)
theorem PtO.tree {w : World} : ∀ {d lo hi : Nat} {A : Option Addr} {n : Nat} {xs : List Pt}, PtO w d lo hi A n xs → PtD w lo hi d A n xs
  | 0, _, _, _, _, _, h => h
  | d + 1, lo, hi, A, n, xs, h => ⟨h.1, h.2.1, fun hn => by
    obtain ⟨g, cs, ls, e, k1, k2, k3, k4, k5, k6, k7⟩ := h.2.2 hn
    have h0n := ls_mono k4 (show 0 ≤ n by omega) (Nat.le_refl _)
    refine ⟨g, 0, e, k1, by omega, fun j x hx => ?_⟩
    obtain ⟨A', n', c', m1, m2, m3, m4⟩ := k7 j x hx
    have hj : j < n := by have := (List.getElem?_eq_some_iff.1 hx).1; have := h.1; omega
    have q1 := ls_mono k4 (show 0 ≤ j by omega) (by omega)
    have q2 := ls_mono k4 (show j + 1 ≤ n by omega) (Nat.le_refl _)
    rw [Nat.zero_add]
    have kk : ∀ q v, (x.vs A' n' c')[q]? = some v → w.cell? ⟨g, j * 4 + q, none⟩ = some v := fun q v hq => (k5.cell _).trans (m2 q v hq)
    exact ⟨A', n', c', m1, ⟨kk 0 _ rfl, kk 1 _ rfl, kk 2 _ rfl, kk 3 _ rfl⟩, m3, (PtO.tree m4).more (by omega) (by omega)⟩⟩
theorem PtO.deeper {w : World} : ∀ {d lo hi : Nat} {A : Option Addr} {n : Nat} {xs : List Pt}, PtO w d lo hi A n xs → PtO w (d + 1) lo hi A n xs
  | 0, _, _, _, _, _, h => by obtain ⟨rfl, rfl⟩ := h; exact ⟨rfl, Nat.zero_le _, fun h => absurd h (by omega)⟩
  | d + 1, lo, hi, A, n, xs, h => ⟨h.1, h.2.1, fun hn => by
    obtain ⟨g, cs, ls, e, k1, k2, k3, k4, k5, k6, k7⟩ := h.2.2 hn
    refine ⟨g, cs, ls, e, k1, k2, k3, k4, k5, k6, fun j x hx => ?_⟩
    obtain ⟨A', n', c', m1, m2, m3, m4⟩ := k7 j x hx
    exact ⟨A', n', c', m1, m2, m3, PtO.deeper m4⟩⟩

theorem digits_size : ∀ (n k : Nat) (acc : ByteArray), k < 10 ^ n → (digitsOf k acc).size ≤ n + acc.size
  | 0, k, acc, h => by
    obtain rfl : k = 0 := by simpa using h
    rw [digitsOf_zero]
    omega
  | n + 1, k, acc, h => by
    by_cases hk : k = 0
    · rw [hk, digitsOf_zero]; omega
    · rw [digitsOf_step (by omega)]
      have := digits_size n (k / 10) (⟨#[48 + UInt8.ofNat (k % 10)]⟩ ++ acc) (by rw [Nat.pow_succ] at h; omega)
      rw [ByteArray.size_append] at this
      have e : (⟨#[48 + UInt8.ofNat (k % 10)]⟩ : ByteArray).size = 1 := rfl
      omega
theorem mark_size {k : Nat} (h : k < 10 ^ 9) : (markT k).size ≤ maxLen := by
  have := digits_size 9 k ⟨#[]⟩ h
  unfold markT
  rw [ByteArray.size_append]
  have e1 : (⟨#[109]⟩ : ByteArray).size = 1 := rfl
  have e2 : (⟨#[]⟩ : ByteArray).size = 0 := rfl
  unfold maxLen
  omega
mutual
/-- The marks as trees, from the number k on. -/
def mkT (k : Nat) : Pt → Pt
  | .node _ _ _ ks => .node (k : Int) ((k : Int) + 1) (markT (k + 2)) (mkTs (k + 3) ks)
def mkTs (k : Nat) : List Pt → List Pt
  | [] => []
  | x :: xs => mkT k x :: mkTs (k + 3 * ptCnt x) xs
end
theorem mkTs_len (xs : List Pt) : ∀ k, (mkTs k xs).length = xs.length := by
  induction xs with
  | nil => intro k; simp [mkTs]
  | cons x xs ih => intro k; simp only [mkTs, List.length_cons, ih]
theorem mkTs_at (xs : List Pt) : ∀ (k j : Nat), (mkTs k xs)[j]? = (xs[j]?).map (mkT (k + 3 * pcntK xs j)) := by
  induction xs with
  | nil => intro k j; rw [mkTs]; simp
  | cons x xs ih =>
    intro k j
    rw [mkTs]
    cases j with
    | zero => simp [pcntK]
    | succ j =>
      rw [List.getElem?_cons_succ, List.getElem?_cons_succ, ih, pcntK_cons]
      rw [show k + 3 * ptCnt x + 3 * pcntK xs j = k + 3 * (ptCnt x + pcntK xs j) from by omega]
mutual
theorem mkT_cnt : ∀ (x : Pt) (k : Nat), ptCnt (mkT k x) = ptCnt x
  | .node a b t ks, k => by rw [mkT, ptCnt, ptCnt, mkTs_cnt ks (k + 3)]
theorem mkTs_cnt : ∀ (xs : List Pt) (k : Nat), ptCnts (mkTs k xs) = ptCnts xs
  | [], k => by rw [mkTs]
  | x :: xs, k => by rw [mkTs, ptCnts, ptCnts, mkT_cnt x k, mkTs_cnt xs]
end
end Go.Proofs.YtjeiiljdhnmofaaDoor
