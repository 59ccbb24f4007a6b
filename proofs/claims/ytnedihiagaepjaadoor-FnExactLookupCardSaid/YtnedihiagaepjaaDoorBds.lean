/- Slices of Binding: what came in or lies below B; szBindingS, toBindingS of the laws. No condition. -/
import Derived.Test.YtnedihiagaepjaaDoorValSz
import Derived.Test.YtnedihiagaepjaaDoorSts
namespace Go.Proofs.YtnedihiagaepjaaDoor
open Go Go.RowKit

/-- A Binding. -/
structure Bd where
  name_ : ByteArray
  kind_ : Int
  num_ : Int
  text_ : ByteArray
  ref_ : Int
/-- Its cells. -/
def Bd.vs (x : Bd) : List Value := [.string x.name_, .int .i64 x.kind_, .int .i64 x.num_, .string x.text_, .int .i64 x.ref_]
/-- As one value. -/
abbrev Bd.ag (x : Bd) : Value := .agg #[.string x.name_, .int .i64 x.kind_, .int .i64 x.num_, .string x.text_, .int .i64 x.ref_]
/-- The cells from o on of block b. -/
def BdAt (w : World) (b o : Nat) (x : Bd) : Prop :=
  w.cell? ⟨b, o, none⟩ = some (.string x.name_) ∧ w.cell? ⟨b, o + 1, none⟩ = some (.int .i64 x.kind_) ∧ w.cell? ⟨b, o + 2, none⟩ = some (.int .i64 x.num_) ∧ w.cell? ⟨b, o + 3, none⟩ = some (.string x.text_) ∧ w.cell? ⟨b, o + 4, none⟩ = some (.int .i64 x.ref_)
theorem BdAt.below {w w' : World} {b o B : Nat} {x : Bd} (h : BdAt w b o x) (hb : Below B w w') (hg : b < B) : BdAt w' b o x := by
  obtain ⟨h0, h1, h2, h3, h4⟩ := h
  exact ⟨(hb.cell (p := ⟨b, o, none⟩) hg).trans h0, (hb.cell (p := ⟨b, o + 1, none⟩) hg).trans h1, (hb.cell (p := ⟨b, o + 2, none⟩) hg).trans h2, (hb.cell (p := ⟨b, o + 3, none⟩) hg).trans h3, (hb.cell (p := ⟨b, o + 4, none⟩) hg).trans h4⟩
theorem BdAt.other {w : World} {b o : Nat} {x : Bd} (h : BdAt w b o x) {p : Addr} (hp : b ≠ p.block) (u : Value) : BdAt (w.setCell p u) b o x := by
  have k : ∀ i, (w.setCell p u).cell? ⟨b, i, none⟩ = w.cell? ⟨b, i, none⟩ := fun i => World.cell?_setCell_other w p ⟨b, i, none⟩ u (fun e => hp (by rw [e]))
  obtain ⟨h0, h1, h2, h3, h4⟩ := h
  exact ⟨(k _).trans h0, (k _).trans h1, (k _).trans h2, (k _).trans h3, (k _).trans h4⟩
theorem BdAt.range {w : World} {b o : Nat} {x : Bd} (h : BdAt w b o x) : w.rangeAt b o x.vs := by
  obtain ⟨h0, h1, h2, h3, h4⟩ := h
  intro j v hj
  match j, hj with
  | 0, hj => cases hj; exact h0
  | 1, hj => cases hj; exact h1
  | 2, hj => cases hj; exact h2
  | 3, hj => cases hj; exact h3
  | 4, hj => cases hj; exact h4
  | j + 5, hj => simp [Bd.vs] at hj
/-- A slice of Binding whose cells lie below B. -/
def BdI (w : World) (B : Nat) (A : Option Addr) (n : Nat) (xs : List Bd) : Prop :=
  xs.length = n ∧ n ≤ maxLen ∧ (0 < n → ∃ b off, A = some ⟨b, off, none⟩ ∧ b < B ∧ ∀ (j : Nat) (x : Bd), xs[j]? = some x → BdAt w b (off + j * 5) x ∧ x.name_.size ≤ maxLen ∧ x.text_.size ≤ maxLen)
theorem BdI.below {w w' : World} {B n : Nat} {A : Option Addr} {xs : List Bd} (h : BdI w B A n xs) (hb : Below B w w') : BdI w' B A n xs :=
  ⟨h.1, h.2.1, fun hn => by
    obtain ⟨b, off, e, hg, hc⟩ := h.2.2 hn
    exact ⟨b, off, e, hg, fun j x hx => ⟨(hc j x hx).1.below hb hg, (hc j x hx).2⟩⟩⟩
theorem BdI.more {w : World} {B B' n : Nat} {A : Option Addr} {xs : List Bd} (h : BdI w B A n xs) (hB : B ≤ B') : BdI w B' A n xs :=
  ⟨h.1, h.2.1, fun hn => by
    obtain ⟨b, off, e, hg, hc⟩ := h.2.2 hn
    exact ⟨b, off, e, by omega, hc⟩⟩
theorem BdI.nil (w : World) (B : Nat) (A : Option Addr) : BdI w B A 0 [] := ⟨rfl, Nat.zero_le _, fun h => absurd h (by omega)⟩
theorem BdI.at_ {w : World} {B n k : Nat} {A : Option Addr} {xs : List Bd} (h : BdI w B A n xs) (hk : k < n) : ∃ b off x, A = some ⟨b, off, none⟩ ∧ b < B ∧ xs[k]? = some x ∧ BdAt w b (off + k * 5) x ∧ x.name_.size ≤ maxLen ∧ x.text_.size ≤ maxLen := by
  obtain ⟨b, off, e, hg, hc⟩ := h.2.2 (by omega)
  have hl : k < xs.length := by rw [h.1]; exact hk
  exact ⟨b, off, xs[k], e, hg, List.getElem?_eq_getElem hl, hc k _ (List.getElem?_eq_getElem hl)⟩
theorem BdI.alloc {W : World} {A : Option Addr} {n : Nat} {xs : List Bd} (h : BdI W W.heap.size A n xs) (o : Obj) : BdI (W.alloc o) (W.alloc o).heap.size A n xs := (h.below (below_alloc W o)).more (by simp)
theorem BdI.go {W w : World} {A : Option Addr} {n : Nat} {xs : List Bd} (h : BdI W W.heap.size A n xs) (hb : Below W.heap.size W w) : BdI w w.heap.size A n xs := (h.below hb).more hb.size
theorem BdI.other {w : World} {B n b off : Nat} {xs : List Bd} (h : BdI w B (some ⟨b, off, none⟩) n xs) {p : Addr} (hp : b ≠ p.block) (u : Value) : BdI (w.setCell p u) B (some ⟨b, off, none⟩) n xs :=
  ⟨h.1, h.2.1, fun hn => by
    obtain ⟨b', off', e, hg, hc⟩ := h.2.2 hn
    simp only [Option.some.injEq, Addr.mk.injEq, and_true] at e
    obtain ⟨rfl, rfl⟩ := e
    exact ⟨b, off, rfl, hg, fun j x hx => ⟨(hc j x hx).1.other hp u, (hc j x hx).2⟩⟩⟩
theorem BdI.others {B n b off : Nat} {xs : List Bd} {g : Nat} (hp : b ≠ g) : ∀ {vs : List Value} {w : World} {o : Nat}, BdI w B (some ⟨b, off, none⟩) n xs → BdI (w.setCells g o vs) B (some ⟨b, off, none⟩) n xs
  | [], _, _, h => h
  | v :: r, w, o, h => BdI.others hp (vs := r) (h.other (p := ⟨g, o, none⟩) hp v)
theorem BdI.row {w : World} {B n b off : Nat} {xs : List Bd} {g : Nat} (h : BdI w B (some ⟨b, off, none⟩) n xs) (hp : b ≠ g) (cs : Array Value) : BdI (w.setRow g cs) B (some ⟨b, off, none⟩) n xs :=
  ⟨h.1, h.2.1, fun hn => by
    obtain ⟨b', off', e, hg, hc⟩ := h.2.2 hn
    simp only [Option.some.injEq, Addr.mk.injEq, and_true] at e
    obtain ⟨rfl, rfl⟩ := e
    refine ⟨b, off, rfl, hg, fun j x hx => ⟨?_, (hc j x hx).2⟩⟩
    obtain ⟨h0, h1, h2, h3, h4⟩ := (hc j x hx).1
    exact ⟨(cell_setRow_other w g cs _ hp).trans h0, (cell_setRow_other w g cs _ hp).trans h1, (cell_setRow_other w g cs _ hp).trans h2, (cell_setRow_other w g cs _ hp).trans h3, (cell_setRow_other w g cs _ hp).trans h4⟩⟩

theorem BdI.det {w : World} {B n b off : Nat} {xs : List Bd} (h : BdI w B (some ⟨b, off, none⟩) n xs) : Det b B w fun w => BdI w B (some ⟨b, off, none⟩) n xs := fun w' k =>
  ⟨h.1, h.2.1, fun hn => by
    obtain ⟨b', off', e, hg, hc⟩ := h.2.2 hn
    simp only [Option.some.injEq, Addr.mk.injEq, and_true] at e
    obtain ⟨rfl, rfl⟩ := e
    refine ⟨b, off, rfl, hg, fun j x hx => ⟨?_, (hc j x hx).2⟩⟩
    have k' := k b (Nat.le_refl _) hg
    obtain ⟨h0, h1, h2, h3, h4⟩ := (hc j x hx).1
    exact ⟨(cell_same k').trans h0, (cell_same k').trans h1, (cell_same k').trans h2, (cell_same k').trans h3, (cell_same k').trans h4⟩⟩
section
variable {H : Type} {enc : TypeId × Value → H} {W : World} {base : Nat} {held : Bool}
set_option maxRecDepth 100000 in
theorem open_BdN {fuel : Nat} {cs : List Value} {x : DataW H × List MemPlace} (h : DataW.trod enc Tryd.prog W base (fun _ => true) held fuel 72 cs = some x) :
    ∃ x : Bd, cs = x.vs ∧ x.name_.size ≤ maxLen ∧ x.text_.size ≤ maxLen := by
  obtain ⟨ys, m, hm, _, hlen, _, hf⟩ := DataW.trod_struct Tryd.underlying72 h
  have hlen' : cs.length = 5 := hlen.trans (by kernel_rfl)
  match cs, hlen' with
  | [c0, c1, c2, c3, c4], _ =>
    have C1 : Tryd.prog.cellsOf 9 = 1 := by kernel_rfl
    have C4 : Tryd.prog.cellsOf 70 = 4 := by kernel_rfl
    have f0 : DataW.trod enc Tryd.prog W base (fun _ => true) held m 9 [c0] = ys[0]? := field_at (i := 0) (o := 0) (k := 1) (T := 9) hf (by kernel_rfl) C1
    have f1 : DataW.trod enc Tryd.prog W base (fun _ => true) held m 70 [c1, c2, c3, c4] = ys[1]? := field_at (i := 1) (o := 1) (k := 4) (T := 70) hf (by kernel_rfl) C4
    have hys : ∀ i, i < 2 → ∃ y, ys[i]? = some y := by
      intro i hi
      have : ys.length = 2 := by assumption
      exact ⟨_, List.getElem?_eq_getElem (by omega)⟩
    obtain ⟨y0, g0⟩ := hys 0 (by decide)
    obtain ⟨y1, g1⟩ := hys 1 (by decide)
    rw [g0] at f0
    rw [g1] at f1
    obtain ⟨z0, e0, _, hz0⟩ := DataW.trod_string Tryd.underlying9 f0
    obtain ⟨ys', m', _, _, _, hl', hf'⟩ := DataW.trod_struct Tryd.underlying70 f1
    have hys' : ∀ i, i < 4 → ∃ y, ys'[i]? = some y := by
      intro i hi
      have : ys'.length = 4 := by assumption
      exact ⟨_, List.getElem?_eq_getElem (by omega)⟩
    have k0 : DataW.trod enc Tryd.prog W base (fun _ => true) held m' 2 [c1] = ys'[0]? := field_at (i := 0) (o := 0) (k := 1) (T := 2) hf' (by kernel_rfl) (by kernel_rfl)
    have k1 : DataW.trod enc Tryd.prog W base (fun _ => true) held m' 2 [c2] = ys'[1]? := field_at (i := 1) (o := 1) (k := 1) (T := 2) hf' (by kernel_rfl) (by kernel_rfl)
    have k2 : DataW.trod enc Tryd.prog W base (fun _ => true) held m' 9 [c3] = ys'[2]? := field_at (i := 2) (o := 2) (k := 1) (T := 9) hf' (by kernel_rfl) (by kernel_rfl)
    have k3 : DataW.trod enc Tryd.prog W base (fun _ => true) held m' 2 [c4] = ys'[3]? := field_at (i := 3) (o := 3) (k := 1) (T := 2) hf' (by kernel_rfl) (by kernel_rfl)
    obtain ⟨q0, p0⟩ := hys' 0 (by decide)
    obtain ⟨q1, p1⟩ := hys' 1 (by decide)
    obtain ⟨q2, p2⟩ := hys' 2 (by decide)
    obtain ⟨q3, p3⟩ := hys' 3 (by decide)
    rw [p0] at k0
    rw [p1] at k1
    rw [p2] at k2
    rw [p3] at k3
    obtain ⟨z1, e1, _, _⟩ := DataW.trod_int Tryd.underlying2 k0
    obtain ⟨z2, e2, _, _⟩ := DataW.trod_int Tryd.underlying2 k1
    obtain ⟨z3, e3, _, hz3⟩ := DataW.trod_string Tryd.underlying9 k2
    obtain ⟨z4, e4, _, _⟩ := DataW.trod_int Tryd.underlying2 k3
    simp only [List.cons.injEq, and_true] at e0 e1 e2 e3 e4
    subst e0 e1 e2 e3 e4
    exact ⟨⟨z0, z1, z2, z3, z4⟩, rfl, hz0, hz3⟩
theorem open_BdF {A : Option Addr} {n c fuel : Nat} {x : DataW H × List MemPlace} (hf : DataW.trod enc Tryd.prog W base (fun _ => true) held fuel 22 [.slice A n c] = some x) :
    ∃ xs, BdI W W.heap.size A n xs := by
  rcases Go.Deep.open_slice Tryd.underlying22 hf with ⟨h0, _⟩ | ⟨a, len, cap, m, k, D, Pl, hcs, hb, hl, hm, hmm, hx, hi⟩
  · simp at h0
    obtain ⟨rfl, rfl, rfl⟩ := h0
    exact ⟨[], rfl, Nat.zero_le _, fun h => absurd h (by omega)⟩
  · simp only [List.cons.injEq, Value.slice.injEq, and_true] at hcs
    obtain ⟨rfl, rfl, rfl⟩ := hcs
    simp only [if_true] at hmm
    have hC : Tryd.prog.cellsOf 72 = 5 := by kernel_rfl
    have key : ∀ i, i < n → ∃ o : Bd, (∀ j v, (Bd.vs o)[j]? = some v → W.cell? (a.add (i * 5 + j)) = some v) ∧ o.name_.size ≤ maxLen ∧ o.text_.size ≤ maxLen := by
      intro i hin
      obtain ⟨cs', hc, ht'⟩ := hi i (by omega)
      rw [hC] at hc
      obtain ⟨o, e, ho⟩ := open_BdN ht'
      obtain ⟨_, hcl, hat⟩ := World.cells?_some hc
      refine ⟨o, fun j v hj => ?_, ho⟩
      rw [← e] at hj
      have hjl : j < 5 := by have := (List.getElem?_eq_some_iff.1 hj).1; omega
      rw [← Go.Deep.add_add, hat j hjl, hj]
    have hnm : n ≤ maxLen := Nat.le_trans hl hm
    by_cases hn : 0 < n
    · obtain ⟨ab, ao, spot⟩ := a
      obtain ⟨o0, h0, _⟩ := key 0 hn
      have h00 := h0 0 _ rfl
      have hspot : spot = none := by simpa [Addr.add] using World.cell?_spot h00
      subst hspot
      rw [Addr.add_lit] at h00
      obtain ⟨os, hl', hx'⟩ := list_of (α := Bd) (P := fun j o => BdAt W ab (ao + j * 5) o ∧ o.name_.size ≤ maxLen ∧ o.text_.size ≤ maxLen) (n := n) fun i hin => by
        obtain ⟨o, hc, ho⟩ := key i hin
        have hc' : ∀ j v, (Bd.vs o)[j]? = some v → W.cell? ⟨ab, ao + i * 5 + j, none⟩ = some v := by
          intro j v hj
          have := hc j v hj
          rw [Addr.add_lit, ← Nat.add_assoc] at this
          exact this
        exact ⟨o, ⟨hc' 0 _ rfl, hc' 1 _ rfl, hc' 2 _ rfl, hc' 3 _ rfl, hc' 4 _ rfl⟩, ho⟩
      exact ⟨os, hl', hnm, fun _ => ⟨ab, ao, rfl, World.block_lt_of_cell? W ⟨ab, _, none⟩ h00, hx'⟩⟩
    · exact ⟨[], by simp; omega, hnm, fun h => absurd h hn⟩
end
theorem open_Bd {H : Type} {enc : TypeId × Value → H} {W : World} {A : Option Addr} {n c : Nat} {d : DataW H} {p : List MemPlace} (h : DataW.Trod enc Tryd.prog W 0 (fun _ => true) true 22 (.slice A n c) d p) :
    ∃ xs, BdI W W.heap.size A n xs := by
  obtain ⟨fuel, hf⟩ := h
  exact open_BdF (by simpa [Value.cells] using hf)

/-- A Binding's texts' bytes. -/
def szBd1 (x : Bd) : Nat := x.name_.size + x.text_.size
/-- Those of the first k. -/
def sumBd (xs : List Bd) : Nat → Nat
  | 0 => 0
  | k + 1 => sumBd xs k + ((xs[k]?.map szBd1).getD 0)
theorem sumBd_next {xs : List Bd} {k : Nat} {x : Bd} (h : xs[k]? = some x) : sumBd xs (k + 1) = sumBd xs k + szBd1 x := by
  rw [sumBd, h]
  rfl
theorem sumBd_mono {xs : List Bd} {j : Nat} : ∀ {k : Nat}, j ≤ k → sumBd xs j ≤ sumBd xs k
  | 0, h => by obtain rfl : j = 0 := by omega
               exact Nat.le_refl _
  | k + 1, h => by
    by_cases e : j = k + 1
    · rw [e]; exact Nat.le_refl _
    · have := sumBd_mono (xs := xs) (show j ≤ k by omega)
      rw [sumBd]
      omega
/-- What szBindingS takes of the bound. -/
def szBd (xs : List Bd) : Nat := xs.length + sumBd xs xs.length

set_option maxRecDepth 100000 in
theorem szBinding_any (x : Bd) (L : Int) (W : World) (h0 : 0 ≤ L) (hL : L ≤ 1048576) (hm0 : x.name_.size ≤ maxLen) (hm3 : x.text_.size ≤ maxLen) :
    Calls Tryd.prog 41 #[x.ag, .int .i64 L] W (SzL (szBd1 x) L W) := by
  obtain ⟨s, hs⟩ : ∃ s, szBd1 x = s := ⟨_, rfl⟩
  rw [hs]
  unfold szBd1 at hs
  obtain ⟨x0, x1, x2, x3, x4⟩ := x
  dsimp only at hs hm0 hm3
  have HS := Lib.hid hs
  have HM3 := Lib.hid hm3
  have HL0 := Lib.hid h0
  have HL1 := Lib.hid hL
  unfold maxLen at hm0
  clear hs hm3
  show Calls Tryd.prog 41 #[.agg #[.string x0, .int .i64 x1, .int .i64 x2, .string x3, .int .i64 x4], .int .i64 L] W _
  by_cases c0 : (x0.size : Int) ≤ L
  · have d0 : decide (L - (x0.size : Int) < 0) = false := by simp; omega
    have HC0 := Lib.hid c0
    by_cases c1 : (x0.size : Int) + (x3.size : Int) ≤ L
    · have HC1 := Lib.hid c1
      have HX : Hid ((s : Int) ≤ L) := by have := HS.out; show _ ≤ _; omega
      have HE : Hid (L - (x0.size : Int) - (x3.size : Int) = L - (s : Int)) := by have := HS.out; show _ = _; omega
      have d1 : decide (L - (x0.size : Int) - (x3.size : Int) < 0) = false := by simp; omega
      clear c0 c1
      go_enter Tryd.func41, Tryd.ntmps41
      go_wp2_with (go_at_call 65; refine (szValue_fits _ _ _ _ _ _ (by have := HC1.out; omega) (by have := HL1.out; omega)).mono ?_; rintro e w1 ⟨rfl, hb⟩; have HB1 : Hid (Below W.heap.size W w1) := ((below_alloc _ _).trans (hb.mono (by simp))); clear hb)
      go_ret
      exact ⟨.inl ⟨HX.out, by rw [HE.out]; rfl⟩, HB1.out⟩
    · have HC1 := Lib.hid c1
      have HX : Hid (L < (s : Int)) := by have := HS.out; show _ < _; omega
      clear c0 c1
      go_enter Tryd.func41, Tryd.ntmps41
      go_wp2_with (go_at_call 65; refine (szValue_long _ _ _ _ _ _ (by have := HC1.out; omega) (by have := HC0.out; omega) (by have := HL1.out; omega) HM3.out).mono ?_; rintro e w1 ⟨rfl, hb⟩; have HB1 : Hid (Below W.heap.size W w1) := ((below_alloc _ _).trans (hb.mono (by simp))); clear hb)
      go_ret
      exact ⟨.inr ⟨HX.out, rfl⟩, HB1.out⟩
  · have d0 : decide (L - (x0.size : Int) < 0) = true := by simp; omega
    have HX : Hid (L < (s : Int)) := by have := HS.out; show _ < _; omega
    go_enter Tryd.func41, Tryd.ntmps41
    go_wp2_with fail
    go_ret
    exact ⟨.inr ⟨HX.out, rfl⟩, below_alloc _ _⟩

set_option maxHeartbeats 1000000 in
set_option maxRecDepth 100000 in
theorem szBindingS_any (A : Option Addr) (n c : Nat) (xs : List Bd) (L : Int) (W : World) (hr : BdI W W.heap.size A n xs) (h0 : 0 ≤ L) (hL : L ≤ 1048576) :
    Calls Tryd.prog 21 #[.slice A n c, .int .i64 L] W (SzL (szBd xs) L W) := by
  have HR := Lib.hid hr
  have hn := hr.2.1
  have hxn := hr.1
  clear hr
  obtain ⟨s, hs⟩ : ∃ s, szBd xs = s := ⟨_, rfl⟩
  have HS : Hid (s = n + sumBd xs n) := by show _ = _; rw [← hs, szBd, hxn]
  rw [hs]
  clear hs hxn
  unfold maxLen at hn
  by_cases hbig : L < (n : Int)
  · have HB : Hid (L < (s : Int)) := by show _ < _; have := HS.out; omega
    have h2 : (n : Int) ≤ 9223372036854775807 := by omega
    have d0 : decide (L - n < 0) = true := by simp; omega
    go_enter Tryd.func21, Tryd.ntmps21
    go_wp2_with fail
    go_ret
    exact ⟨.inr ⟨HB.out, rfl⟩, Below.refl _ _⟩
  · have h1 : (n : Int) ≤ L := by omega
    have hn' : n ≤ 1048576 := by omega
    have d0 : decide (L - n < 0) = false := by simp; omega
    clear hbig
    go_enter Tryd.func21, Tryd.ntmps21
    go_wp2_with fail
    go_loopw [1, 5] (fun q i wr => ∃ k : Nat, ∃ z : Int, k ≤ n ∧ i = .int .i64 k ∧ q = .int .i64 z ∧ 0 ≤ z ∧ z ≤ 1048576 ∧ Hid (z = L - (n : Int) - (sumBd xs k : Int)) ∧ Hid (Below W.heap.size W wr)) (fun _ i _ => n - (intOf i).toNat)
    case atStart => exact ⟨0, _, Nat.zero_le _, rfl, rfl, by omega, by omega, by show _ = _; simp [sumBd], Below.refl _ _⟩
    case round =>
      obtain ⟨k, z, hk, rfl, rfl, hz0, hz1, HZ, HW⟩ := hrel
      by_cases hlt : k < n
      · obtain ⟨b, off, x, rfl, hg, hx, ⟨q0, q1, q2, q3, q4⟩, hm0, hm3⟩ := (HR.out.below HW.out).at_ hlt
        have HX := Lib.hid hx
        have b0 : (0 : Int) ≤ (k : Int) := by omega
        have b1 : (k : Int) < (n : Int) := by omega
        have HZ0 : Hid (0 ≤ z) := hz0
        have HZ1 : Hid (z ≤ 1048576) := hz1
        have HC := Lib.hid (fun w => szBinding_any x z w hz0 hz1 hm0 hm3)
        clear hx hg hm0 hm3
        by_cases hf : (szBd1 x : Int) ≤ z
        · have HF := Lib.hid hf
          have HN : Hid (sumBd xs (k + 1) = sumBd xs k + szBd1 x) := sumBd_next HX.out
          clear hf
          go_wp2_with (go_at_call 41; refine (HC.out _).mono ?_; intro e w1 h; obtain ⟨z1, rfl, hz2, l1, u1, hb⟩ := h.fits HF.out HZ1.out; have Z1 := Lib.hid hz2; have dz : decide (z1 < 0) = false := (by simp; omega); have HW1 : Hid (Below W.heap.size W w1) := HW.out.trans (hb.mono HW.out.size); clear hb hz2)
          go_roundw
          case rel => exact ⟨k + 1, _, by omega, by go_num, rfl, by omega, by omega, by show _ = _; rw [HN.out, Z1.out, HZ.out]; omega, HW1⟩
          case measure => simp [intOf]; omega
        · have HF := Lib.hid hf
          have HBIG : Hid (L < (s : Int)) := by
            show _ < _
            have h1 := sumBd_mono (xs := xs) (j := k + 1) (k := n) (by omega)
            rw [sumBd_next HX.out] at h1
            have h2 := HZ.out
            have h3 := HS.out
            omega
          clear hf
          go_wp2_with (go_at_call 41; refine (HC.out _).mono ?_; intro e w1 h; obtain ⟨rfl, hb⟩ := h.long HF.out; have HW1 : Hid (Below W.heap.size W w1) := HW.out.trans (hb.mono HW.out.size); clear hb)
          go_ret
          exact ⟨.inr ⟨HBIG.out, rfl⟩, HW1.out⟩
      · have hkn : k = n := by omega
        have HE : Hid ((s : Int) ≤ L ∧ z = L - (s : Int)) := by
          have h := HZ.out
          have h3 := HS.out
          rw [hkn] at h
          exact ⟨by omega, by omega⟩
        go_wp2_with fail
        go_ret
        exact ⟨.inl ⟨HE.out.1, by rw [HE.out.2]; rfl⟩, HW.out⟩


set_option maxHeartbeats 1000000 in
theorem toBinding_any (x : Bd) (W : World) :
    Calls Tryd.prog 50 #[x.ag] W fun e w' => e = .returned x.ag ∧ Below W.heap.size W w' := by
  obtain ⟨x0, x1, x2, x3, x4⟩ := x
  show Calls Tryd.prog 50 #[.agg #[.string x0, .int .i64 x1, .int .i64 x2, .string x3, .int .i64 x4]] W _
  have HC := Lib.hid (fun (X Y : World) (T T' : TypeId) (c c' : Array Value) (eY : Y = W.alloc (.cells #[.string x0, .int .i64 x1, .int .i64 x2, .string x3, .int .i64 x4] T)) (eX : X = (Y.alloc (.cells c T')).alloc (.cells c' T')) =>
    (show RW T' X (W.heap.size + 1 + 1) c' ∧ RW T' X (W.heap.size + 1) c ∧ Below W.heap.size W X ∧ X.heap.size = W.heap.size + 3 from by
      subst eX; subst eY
      refine ⟨?_, ?_, ((below_alloc _ _).alloc (by simp) _).alloc (by simp; omega) _, by simp⟩
      · have := RW.new ((W.alloc (.cells #[.string x0, .int .i64 x1, .int .i64 x2, .string x3, .int .i64 x4] T)).alloc (.cells c T')) c' T'
        simpa using this
      · have := (RW.new (W.alloc (.cells #[.string x0, .int .i64 x1, .int .i64 x2, .string x3, .int .i64 x4] T)) c T').alloc (.cells c' T')
        simpa using this))
  go_enter Tryd.func50, Tryd.ntmps50
  go_wp2_with (go_at_call 71; obtain ⟨g1, g4, g2, g3⟩ := HC.out _ _ _ _ _ _ rfl rfl; refine (toValue_any _ _ _ _ _).mono ?_; rintro e w1 ⟨rfl, hb⟩; have HR1 := Lib.hid (g1.below hb (by omega)); have HO1 := Lib.hid (g4.below hb (by omega)); have HB1 := Lib.hid (g2.trans (hb.mono g2.size)); have hsz1 := hb.size; have HG1 : Hid (W.heap.size + 3 ≤ w1.heap.size) := (by show _ ≤ _; omega); have p0 : w1.cell? ⟨W.heap.size + 1 + 1, 0, none⟩ = some (.string x0) := HR1.out.cell 0; have f0 := HR1.out.frozen 0; have r0 : w1.cell? ⟨W.heap.size + 1, 0, none⟩ = some (.string ⟨#[]⟩) := HO1.out.cell 0; have z0 := HO1.out.frozen 0; have p1 : w1.cell? ⟨W.heap.size + 1 + 1, 1, none⟩ = some (.int .i64 0) := HR1.out.cell 1; have f1 := HR1.out.frozen 1; have r1 : w1.cell? ⟨W.heap.size + 1, 1, none⟩ = some (.int .i64 0) := HO1.out.cell 1; have z1 := HO1.out.frozen 1; have p2 : w1.cell? ⟨W.heap.size + 1 + 1, 2, none⟩ = some (.int .i64 0) := HR1.out.cell 2; have f2 := HR1.out.frozen 2; have r2 : w1.cell? ⟨W.heap.size + 1, 2, none⟩ = some (.int .i64 0) := HO1.out.cell 2; have z2 := HO1.out.frozen 2; have p3 : w1.cell? ⟨W.heap.size + 1 + 1, 3, none⟩ = some (.string ⟨#[]⟩) := HR1.out.cell 3; have f3 := HR1.out.frozen 3; have r3 : w1.cell? ⟨W.heap.size + 1, 3, none⟩ = some (.string ⟨#[]⟩) := HO1.out.cell 3; have z3 := HO1.out.frozen 3; have p4 : w1.cell? ⟨W.heap.size + 1 + 1, 4, none⟩ = some (.int .i64 0) := HR1.out.cell 4; have f4 := HR1.out.frozen 4; have r4 : w1.cell? ⟨W.heap.size + 1, 4, none⟩ = some (.int .i64 0) := HO1.out.cell 4; have z4 := HO1.out.frozen 4; clear g1 g2 g3 g4 hb hsz1)
  have hs1 := HG1.out
  refine bodyPost_ret (v := .agg #[.string x0, .int .i64 x1, .int .i64 x2, .string x3, .int .i64 x4]) (results_cell_row Tryd.results50 _ _ (W.heap.size + 1) 63 _ (0, 0) _ rfl ((((((((((((((((((HO1.out).other (p := ⟨W.heap.size + 1 + 1, 1, none⟩) (by simp) (.int .i64 x1))).other (p := ⟨W.heap.size + 1 + 1, 2, none⟩) (by simp) (.int .i64 x2))).other (p := ⟨W.heap.size + 1 + 1, 3, none⟩) (by simp) (.string x3))).other (p := ⟨W.heap.size + 1 + 1, 4, none⟩) (by simp) (.int .i64 x4))).set_ 0 (.string x0))).set_ 1 (.int .i64 x1))).set_ 2 (.int .i64 x2))).set_ 3 (.string x3))).set_ 4 (.int .i64 x4)) Tryd.underlying63 rfl (by kernel_rfl)) rfl ⟨rfl, HB1.out.trans (((((((((((((((((((below_set w1 (B := W.heap.size + 1) (p := ⟨W.heap.size + 1 + 1, 1, none⟩) (by simp) (.int .i64 x1))).setCell (p := ⟨W.heap.size + 1 + 1, 2, none⟩) (by simp) (.int .i64 x2))).setCell (p := ⟨W.heap.size + 1 + 1, 3, none⟩) (by simp) (.string x3))).setCell (p := ⟨W.heap.size + 1 + 1, 4, none⟩) (by simp) (.int .i64 x4))).setCell (p := ⟨W.heap.size + 1, 0, none⟩) (by simp) (.string x0))).setCell (p := ⟨W.heap.size + 1, 1, none⟩) (by simp) (.int .i64 x1))).setCell (p := ⟨W.heap.size + 1, 2, none⟩) (by simp) (.int .i64 x2))).setCell (p := ⟨W.heap.size + 1, 3, none⟩) (by simp) (.string x3))).setCell (p := ⟨W.heap.size + 1, 4, none⟩) (by simp) (.int .i64 x4))).mono (by omega))⟩

/-- The elements of block g ahead of j are filled. -/
def FilledBd (w : World) (g j n : Nat) (xs : List Bd) : Prop := ∃ cs, RW 63 w g cs ∧ n * 5 ≤ cs.size ∧ ∀ (i q : Nat) (x : Bd) (v : Value), i < j → xs[i]? = some x → x.vs[q]? = some v → cs[i * 5 + q]? = some v
theorem infoBd : (Tryd.prog.info? 63).map (fun i => (i.zero, i.size, i.bytes)) = some (some (Value.agg #[.string ⟨#[]⟩, .int .i64 0, .int .i64 0, .string ⟨#[]⟩, .int .i64 0]), 5, 56) := by kernel_rfl
theorem ownBd {w : World} {B g n : Nat} {xs : List Value} (h : w.ownsRow B 63 5 (.slice (some ⟨g, 0, none⟩) n n) n xs) : ∃ cs, RW 63 w g cs ∧ n * 5 ≤ cs.size := by
  rcases h.2 with ⟨h', _⟩ | ⟨g', cap', cur, h', _, hg, _, _, hsz, _⟩
  · simp at h'
  · simp only [Value.slice.injEq, Option.some.injEq, Addr.mk.injEq, and_true, true_and] at h'
    obtain ⟨rfl, rfl⟩ := h'
    exact ⟨cur, hg, by omega⟩
theorem size_setsBd (vs : List Value) (w : World) (g k : Nat) : (w.setCells g k vs).heap.size = w.heap.size := by
  induction vs generalizing w k with
  | nil => rfl
  | cons v r ih => exact (ih _ _).trans (size_set _ _ _)
theorem FilledBd.store {w : World} {g j n : Nat} {xs : List Bd} {x : Bd} (h : FilledBd w g j n xs) (hx : xs[j]? = some x) (hj : j < n) : FilledBd (w.setCells g (j * 5) x.vs) g (j + 1) n xs := by
  obtain ⟨cs, hr, hn, hm⟩ := h
  have hlK : x.vs.length = 5 := rfl
  refine ⟨_, hr.cells, by rw [putL_size]; exact hn, fun i q y v hi hy hv => ?_⟩
  by_cases e : i = j
  · subst e
    rw [hx, Option.some.injEq] at hy
    subst hy
    exact putL_new _ _ _ _ _ (by rw [hlK]; omega) hv
  · have hqK : q < 5 := (List.getElem?_eq_some_iff.1 hv).1
    rw [putL_old _ _ _ _ (by omega)]
    exact hm i q y v (by omega) hy hv
theorem FilledBd.below {w w' : World} {g j n : Nat} {xs : List Bd} (h : FilledBd w g j n xs) (hb : Below w.heap.size w w') : FilledBd w' g j n xs := by
  obtain ⟨cs, hr, hn, hm⟩ := h
  exact ⟨cs, hr.below hb hr.lt, hn, hm⟩
/-- What toBindingS answers: a slice at the head of the first new block. -/
def ToBd (xs : List Bd) (n : Nat) (W : World) (e : Ending) (w' : World) : Prop :=
  e = .returned (.slice (some ⟨W.heap.size, 0, none⟩) n n) ∧ Hid (BdI w' w'.heap.size (some ⟨W.heap.size, 0, none⟩) n xs ∧ Below W.heap.size W w')

set_option maxHeartbeats 2000000 in
set_option maxRecDepth 100000 in
theorem toBindingS_any (A : Option Addr) (n c : Nat) (xs : List Bd) (W : World) (hr : BdI W W.heap.size A n xs) (hn : n ≤ 1048576) :
    Calls Tryd.prog 27 #[.slice A n c] W (ToBd xs n W) := by
  obtain ⟨i0, hi, hz0, hz1, hz2⟩ := info_parts infoBd
  have HR := Lib.hid hr
  have h1 : (n : Int) ≤ 1048576 := by omega
  clear hr
  go_enter Tryd.func27, Tryd.ntmps27
  go_wp2_with (at_make; refine wpList_make_full _ rfl _ _ 32 rfl W.heap.size 63 i0 (.agg #[.string ⟨#[]⟩, .int .i64 0, .int .i64 0, .string ⟨#[]⟩, .int .i64 0]) 5 Tryd.underlying32 hi hz0 hz1 .i64 .i64 n n n rfl rfl rfl rfl (by rw [hz2]; omega) (by unfold maxLen; omega) (Nat.le_refl _) ?_)
  intro w1 hown hgrow
  have HB1 : Hid (Below W.heap.size W w1) := below_grown_none hgrow
  obtain ⟨cs, hcs, hcn⟩ := ownBd hown
  have HG : Hid (W.heap.size < w1.heap.size) := hcs.lt
  have HM : Hid (FilledBd w1 W.heap.size 0 n xs) := ⟨cs, hcs, hcn, fun i q x v hi => absurd hi (by omega)⟩
  clear hown hgrow hcs hcn hi hz0 hz1 hz2
  go_wp2_with fail
  go_loopw [4] (fun i wr => ∃ j : Nat, j ≤ n ∧ i = .int .i64 j ∧ Hid (Below W.heap.size W wr) ∧ Hid (W.heap.size < wr.heap.size) ∧ Hid (FilledBd wr W.heap.size j n xs)) (fun i _ => n - (intOf i).toNat)
  case atStart => exact ⟨0, Nat.zero_le _, rfl, HB1, HG, HM⟩
  case round =>
    obtain ⟨j, hj, rfl, HW, HZ, HJ⟩ := hrel
    by_cases hlt : j < n
    · obtain ⟨b, off, x, rfl, hg, hx, ⟨q0, q1, q2, q3, q4⟩, hxs⟩ := (HR.out.below HW.out).at_ hlt
      obtain ⟨x0, x1, x2, x3, x4⟩ := x
      dsimp only at q0 q1 q2 q3 q4 hxs
      have HX := Lib.hid hx
      have HLT := Lib.hid hlt
      clear hx hxs hg
      have b0 : (0 : Int) ≤ (j : Int) := by omega
      have b1 : (j : Int) < (n : Int) := by omega
      go_wp2_with (first | (go_at_call 50; refine (toBinding_any ⟨x0, x1, x2, x3, x4⟩ _).mono ?_; rintro e w2 ⟨rfl, hb⟩; have HF := Lib.hid (HJ.out.below hb); have hlt2 := HLT.out; have HF2 : Hid (FilledBd (w2.setCells W.heap.size (j * 5) [.string x0, .int .i64 x1, .int .i64 x2, .string x3, .int .i64 x4]) W.heap.size (j + 1) n xs) := (by have k := HF.out.store HX.out hlt2; unfold Bd.vs at k; exact k); have HT : Hid (w2.there W.heap.size (j * 5) 5) := (by obtain ⟨cs, hr, hc, _⟩ := HF.out; exact hr.there (by omega)); have HW2 : Hid (Below W.heap.size W (w2.setCells W.heap.size (j * 5) [.string x0, .int .i64 x1, .int .i64 x2, .string x3, .int .i64 x4])) := ((HW.out.trans (hb.mono HW.out.size)).trans (below_cells (Nat.le_refl _) _ _ _)); have HZ2 : Hid (W.heap.size < (w2.setCells W.heap.size (j * 5) [.string x0, .int .i64 x1, .int .i64 x2, .string x3, .int .i64 x4]).heap.size) := (by obtain ⟨_, hr, _⟩ := HF2.out; exact hr.lt); have tk1 : True := trivial; clear hb hlt2 q0 q1 q2 q3 q4) | (clear tk1; refine wpList_store_mid rfl 63 (.tmp 21) (.tmp 20) rfl W.heap.size (j * 5) _ rfl rfl HT.out (by kernel_rfl) (by kernel_rfl) ?_; go_frame; clear HT; generalize w2.setCells W.heap.size (j * 5) [.string x0, .int .i64 x1, .int .i64 x2, .string x3, .int .i64 x4] = w3 at HF2 HW2 HZ2 ⊢))
      go_roundw
      case rel => exact ⟨j + 1, by omega, by go_num, HW2, HZ2, HF2⟩
      case measure => simp [intOf]; omega
    · have HN : Hid (j = n) := by show _ = _; omega
      go_wp2_with fail
      go_ret
      refine ⟨rfl, Lib.hid ⟨⟨HR.out.1, HR.out.2.1, fun _ => ⟨W.heap.size, 0, rfl, HZ.out, fun i x hx => ?_⟩⟩, HW.out⟩⟩
      obtain ⟨cs, hs, hcs, hm⟩ := HJ.out
      have hil : i < xs.length := (List.getElem?_eq_some_iff.1 hx).1
      have hij : i < j := by have := HN.out; have := HR.out.1; omega
      obtain ⟨_, _, _, _, hc⟩ := HR.out.2.2 (by have := HR.out.1; omega)
      rw [Nat.zero_add]
      exact ⟨⟨(hs.cell _).trans (hm i 0 x _ hij hx rfl), (hs.cell _).trans (hm i 1 x _ hij hx rfl), (hs.cell _).trans (hm i 2 x _ hij hx rfl), (hs.cell _).trans (hm i 3 x _ hij hx rfl), (hs.cell _).trans (hm i 4 x _ hij hx rfl)⟩, (hc i x hx).2⟩
end Go.Proofs.YtnedihiagaepjaaDoor
