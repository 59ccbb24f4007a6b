/- Slices of Binding: what came in or lies below B; szBindingS, toBindingS of the laws. No condition. laws.eqBinding, laws.eqBindingS where both are the same. No condition. laws.eqStringS where both are the same. No condition. Function: as plain data and in memory; szFunction, szFunctionS of the laws. No condition. toFunction, toFunctionS of the laws. No condition. laws.eqFunction, laws.eqFunctionS where both are the same. No condition. RecordType: as plain data and in memory; szRecordType, szRecordTypeS of the laws. No condition. toRecordType, toRecordTypeS of the laws. No condition. laws.eqRecordType, laws.eqRecordTypeS where both are the same. No condition. Scope: as plain data and in memory; szScope, szScopeS of the laws. No condition. -/
import Derived.Test.YtfcpdjfckeoniaaGreatDoorValidMemoryM1
import Derived.BigQuiet
namespace Go.Proofs.YtfcpdjfckeoniaaGreatDoor
open Go Go.RowKit

/-- A Binding. -/
structure Bd where
  name_ : ByteArray
  kind_ : Int
  num_ : Int
  text_ : ByteArray
  ref_ : Int
/-- Its cells. -/
def Bd.vs (x : Bd) : List Value := [.string x.name_, .int .i64 x.kind_, .int .i64 x.num_, .string x.text_, .int .i64 x.ref_]
/-- As one value. -/
abbrev Bd.ag (x : Bd) : Value := .agg #[.string x.name_, .int .i64 x.kind_, .int .i64 x.num_, .string x.text_, .int .i64 x.ref_]
/-- The cells from o on of block b. -/
def BdAt (w : World) (b o : Nat) (x : Bd) : Prop :=
  w.cell? ⟨b, o, none⟩ = some (.string x.name_) ∧ w.cell? ⟨b, o + 1, none⟩ = some (.int .i64 x.kind_) ∧ w.cell? ⟨b, o + 2, none⟩ = some (.int .i64 x.num_) ∧ w.cell? ⟨b, o + 3, none⟩ = some (.string x.text_) ∧ w.cell? ⟨b, o + 4, none⟩ = some (.int .i64 x.ref_)
theorem BdAt.below {w w' : World} {b o B : Nat} {x : Bd} (h : BdAt w b o x) (hb : Below B w w') (hg : b < B) : BdAt w' b o x := by
  obtain ⟨h0, h1, h2, h3, h4⟩ := h
  exact ⟨(hb.cell (p := ⟨b, o, none⟩) hg).trans h0, (hb.cell (p := ⟨b, o + 1, none⟩) hg).trans h1, (hb.cell (p := ⟨b, o + 2, none⟩) hg).trans h2, (hb.cell (p := ⟨b, o + 3, none⟩) hg).trans h3, (hb.cell (p := ⟨b, o + 4, none⟩) hg).trans h4⟩
theorem BdAt.other {w : World} {b o : Nat} {x : Bd} (h : BdAt w b o x) {p : Addr} (hp : b ≠ p.block) (u : Value) : BdAt (w.setCell p u) b o x := by
  have k : ∀ i, (w.setCell p u).cell? ⟨b, i, none⟩ = w.cell? ⟨b, i, none⟩ := fun i => World.cell?_setCell_other w p ⟨b, i, none⟩ u (fun e => hp (by rw [e]))
  obtain ⟨h0, h1, h2, h3, h4⟩ := h
  exact ⟨(k _).trans h0, (k _).trans h1, (k _).trans h2, (k _).trans h3, (k _).trans h4⟩
theorem BdAt.range {w : World} {b o : Nat} {x : Bd} (h : BdAt w b o x) : w.rangeAt b o x.vs := by
  obtain ⟨h0, h1, h2, h3, h4⟩ := h
  intro j v hj
  match j, hj with
  | 0, hj => cases hj; exact h0
  | 1, hj => cases hj; exact h1
  | 2, hj => cases hj; exact h2
  | 3, hj => cases hj; exact h3
  | 4, hj => cases hj; exact h4
  | j + 5, hj => simp [Bd.vs] at hj
/-- A slice of Binding whose cells lie below B. -/
def BdI (w : World) (B : Nat) (A : Option Addr) (n : Nat) (xs : List Bd) : Prop :=
  xs.length = n ∧ n ≤ maxLen ∧ (0 < n → ∃ b off, A = some ⟨b, off, none⟩ ∧ b < B ∧ ∀ (j : Nat) (x : Bd), xs[j]? = some x → BdAt w b (off + j * 5) x ∧ x.name_.size ≤ maxLen ∧ x.text_.size ≤ maxLen)
theorem BdI.below {w w' : World} {B n : Nat} {A : Option Addr} {xs : List Bd} (h : BdI w B A n xs) (hb : Below B w w') : BdI w' B A n xs :=
  ⟨h.1, h.2.1, fun hn => by
    obtain ⟨b, off, e, hg, hc⟩ := h.2.2 hn
    exact ⟨b, off, e, hg, fun j x hx => ⟨(hc j x hx).1.below hb hg, (hc j x hx).2⟩⟩⟩
theorem BdI.more {w : World} {B B' n : Nat} {A : Option Addr} {xs : List Bd} (h : BdI w B A n xs) (hB : B ≤ B') : BdI w B' A n xs :=
  ⟨h.1, h.2.1, fun hn => by
    obtain ⟨b, off, e, hg, hc⟩ := h.2.2 hn
    exact ⟨b, off, e, by omega, hc⟩⟩
theorem BdI.nil (w : World) (B : Nat) (A : Option Addr) : BdI w B A 0 [] := ⟨rfl, Nat.zero_le _, fun h => absurd h (by omega)⟩
theorem BdI.at_ {w : World} {B n k : Nat} {A : Option Addr} {xs : List Bd} (h : BdI w B A n xs) (hk : k < n) : ∃ b off x, A = some ⟨b, off, none⟩ ∧ b < B ∧ xs[k]? = some x ∧ BdAt w b (off + k * 5) x ∧ x.name_.size ≤ maxLen ∧ x.text_.size ≤ maxLen := by
  obtain ⟨b, off, e, hg, hc⟩ := h.2.2 (by omega)
  have hl : k < xs.length := by rw [h.1]; exact hk
  exact ⟨b, off, xs[k], e, hg, List.getElem?_eq_getElem hl, hc k _ (List.getElem?_eq_getElem hl)⟩
theorem BdI.alloc {W : World} {A : Option Addr} {n : Nat} {xs : List Bd} (h : BdI W W.heap.size A n xs) (o : Obj) : BdI (W.alloc o) (W.alloc o).heap.size A n xs := (h.below (below_alloc W o)).more (by simp)
theorem BdI.go {W w : World} {A : Option Addr} {n : Nat} {xs : List Bd} (h : BdI W W.heap.size A n xs) (hb : Below W.heap.size W w) : BdI w w.heap.size A n xs := (h.below hb).more hb.size
theorem BdI.other {w : World} {B n b off : Nat} {xs : List Bd} (h : BdI w B (some ⟨b, off, none⟩) n xs) {p : Addr} (hp : b ≠ p.block) (u : Value) : BdI (w.setCell p u) B (some ⟨b, off, none⟩) n xs :=
  ⟨h.1, h.2.1, fun hn => by
    obtain ⟨b', off', e, hg, hc⟩ := h.2.2 hn
    simp only [Option.some.injEq, Addr.mk.injEq, and_true] at e
    obtain ⟨rfl, rfl⟩ := e
    exact ⟨b, off, rfl, hg, fun j x hx => ⟨(hc j x hx).1.other hp u, (hc j x hx).2⟩⟩⟩
theorem BdI.others {B n b off : Nat} {xs : List Bd} {g : Nat} (hp : b ≠ g) : ∀ {vs : List Value} {w : World} {o : Nat}, BdI w B (some ⟨b, off, none⟩) n xs → BdI (w.setCells g o vs) B (some ⟨b, off, none⟩) n xs
  | [], _, _, h => h
  | v :: r, w, o, h => BdI.others hp (vs := r) (h.other (p := ⟨g, o, none⟩) hp v)
theorem BdI.row {w : World} {B n b off : Nat} {xs : List Bd} {g : Nat} (h : BdI w B (some ⟨b, off, none⟩) n xs) (hp : b ≠ g) (cs : Array Value) : BdI (w.setRow g cs) B (some ⟨b, off, none⟩) n xs :=
  ⟨h.1, h.2.1, fun hn => by
    obtain ⟨b', off', e, hg, hc⟩ := h.2.2 hn
    simp only [Option.some.injEq, Addr.mk.injEq, and_true] at e
    obtain ⟨rfl, rfl⟩ := e
    refine ⟨b, off, rfl, hg, fun j x hx => ⟨?_, (hc j x hx).2⟩⟩
    obtain ⟨h0, h1, h2, h3, h4⟩ := (hc j x hx).1
    exact ⟨(cell_setRow_other w g cs _ hp).trans h0, (cell_setRow_other w g cs _ hp).trans h1, (cell_setRow_other w g cs _ hp).trans h2, (cell_setRow_other w g cs _ hp).trans h3, (cell_setRow_other w g cs _ hp).trans h4⟩⟩

theorem BdI.det {w : World} {B n b off : Nat} {xs : List Bd} (h : BdI w B (some ⟨b, off, none⟩) n xs) : Det b B w fun w => BdI w B (some ⟨b, off, none⟩) n xs := fun w' k =>
  ⟨h.1, h.2.1, fun hn => by
    obtain ⟨b', off', e, hg, hc⟩ := h.2.2 hn
    simp only [Option.some.injEq, Addr.mk.injEq, and_true] at e
    obtain ⟨rfl, rfl⟩ := e
    refine ⟨b, off, rfl, hg, fun j x hx => ⟨?_, (hc j x hx).2⟩⟩
    have k' := k b (Nat.le_refl _) hg
    obtain ⟨h0, h1, h2, h3, h4⟩ := (hc j x hx).1
    exact ⟨(cell_same k').trans h0, (cell_same k').trans h1, (cell_same k').trans h2, (cell_same k').trans h3, (cell_same k').trans h4⟩⟩
section
variable {H : Type} {enc : TypeId × Value → H} {W : World} {base : Nat} {held : Bool}
set_option maxRecDepth 100000 in
theorem open_BdN {fuel : Nat} {cs : List Value} {x : DataW H × List MemPlace} (h : DataW.trod enc Tryz.prog W base (fun _ => true) held fuel 164 cs = some x) :
    ∃ x : Bd, cs = x.vs ∧ x.name_.size ≤ maxLen ∧ x.text_.size ≤ maxLen := by
  obtain ⟨ys, m, hm, _, hlen, _, hf⟩ := DataW.trod_struct Tryz.underlying164 h
  have hlen' : cs.length = 5 := hlen.trans (by kernel_rfl)
  match cs, hlen' with
  | [c0, c1, c2, c3, c4], _ =>
    have C1 : Tryz.prog.cellsOf 9 = 1 := by kernel_rfl
    have C4 : Tryz.prog.cellsOf 27 = 4 := by kernel_rfl
    have f0 : DataW.trod enc Tryz.prog W base (fun _ => true) held m 9 [c0] = ys[0]? := field_at (i := 0) (o := 0) (k := 1) (T := 9) hf (by kernel_rfl) C1
    have f1 : DataW.trod enc Tryz.prog W base (fun _ => true) held m 27 [c1, c2, c3, c4] = ys[1]? := field_at (i := 1) (o := 1) (k := 4) (T := 27) hf (by kernel_rfl) C4
    have hys : ∀ i, i < 2 → ∃ y, ys[i]? = some y := by
      intro i hi
      have : ys.length = 2 := by assumption
      exact ⟨_, List.getElem?_eq_getElem (by omega)⟩
    obtain ⟨y0, g0⟩ := hys 0 (by decide)
    obtain ⟨y1, g1⟩ := hys 1 (by decide)
    rw [g0] at f0
    rw [g1] at f1
    obtain ⟨z0, e0, _, hz0⟩ := DataW.trod_string Tryz.underlying9 f0
    obtain ⟨ys', m', _, _, _, hl', hf'⟩ := DataW.trod_struct Tryz.underlying27 f1
    have hys' : ∀ i, i < 4 → ∃ y, ys'[i]? = some y := by
      intro i hi
      have : ys'.length = 4 := by assumption
      exact ⟨_, List.getElem?_eq_getElem (by omega)⟩
    have k0 : DataW.trod enc Tryz.prog W base (fun _ => true) held m' 2 [c1] = ys'[0]? := field_at (i := 0) (o := 0) (k := 1) (T := 2) hf' (by kernel_rfl) (by kernel_rfl)
    have k1 : DataW.trod enc Tryz.prog W base (fun _ => true) held m' 2 [c2] = ys'[1]? := field_at (i := 1) (o := 1) (k := 1) (T := 2) hf' (by kernel_rfl) (by kernel_rfl)
    have k2 : DataW.trod enc Tryz.prog W base (fun _ => true) held m' 9 [c3] = ys'[2]? := field_at (i := 2) (o := 2) (k := 1) (T := 9) hf' (by kernel_rfl) (by kernel_rfl)
    have k3 : DataW.trod enc Tryz.prog W base (fun _ => true) held m' 2 [c4] = ys'[3]? := field_at (i := 3) (o := 3) (k := 1) (T := 2) hf' (by kernel_rfl) (by kernel_rfl)
    obtain ⟨q0, p0⟩ := hys' 0 (by decide)
    obtain ⟨q1, p1⟩ := hys' 1 (by decide)
    obtain ⟨q2, p2⟩ := hys' 2 (by decide)
    obtain ⟨q3, p3⟩ := hys' 3 (by decide)
    rw [p0] at k0
    rw [p1] at k1
    rw [p2] at k2
    rw [p3] at k3
    obtain ⟨z1, e1, _, _⟩ := DataW.trod_int Tryz.underlying2 k0
    obtain ⟨z2, e2, _, _⟩ := DataW.trod_int Tryz.underlying2 k1
    obtain ⟨z3, e3, _, hz3⟩ := DataW.trod_string Tryz.underlying9 k2
    obtain ⟨z4, e4, _, _⟩ := DataW.trod_int Tryz.underlying2 k3
    simp only [List.cons.injEq, and_true] at e0 e1 e2 e3 e4
    subst e0 e1 e2 e3 e4
    exact ⟨⟨z0, z1, z2, z3, z4⟩, rfl, hz0, hz3⟩
theorem open_BdF {A : Option Addr} {n c fuel : Nat} {x : DataW H × List MemPlace} (hf : DataW.trod enc Tryz.prog W base (fun _ => true) held fuel 44 [.slice A n c] = some x) :
    ∃ xs, BdI W W.heap.size A n xs := by
  rcases Go.Deep.open_slice Tryz.underlying44 hf with ⟨h0, _⟩ | ⟨a, len, cap, m, k, D, Pl, hcs, hb, hl, hm, hmm, hx, hi⟩
  · simp at h0
    obtain ⟨rfl, rfl, rfl⟩ := h0
    exact ⟨[], rfl, Nat.zero_le _, fun h => absurd h (by omega)⟩
  · simp only [List.cons.injEq, Value.slice.injEq, and_true] at hcs
    obtain ⟨rfl, rfl, rfl⟩ := hcs
    simp only [if_true] at hmm
    have hC : Tryz.prog.cellsOf 164 = 5 := by kernel_rfl
    have key : ∀ i, i < n → ∃ o : Bd, (∀ j v, (Bd.vs o)[j]? = some v → W.cell? (a.add (i * 5 + j)) = some v) ∧ o.name_.size ≤ maxLen ∧ o.text_.size ≤ maxLen := by
      intro i hin
      obtain ⟨cs', hc, ht'⟩ := hi i (by omega)
      rw [hC] at hc
      obtain ⟨o, e, ho⟩ := open_BdN ht'
      obtain ⟨_, hcl, hat⟩ := World.cells?_some hc
      refine ⟨o, fun j v hj => ?_, ho⟩
      rw [← e] at hj
      have hjl : j < 5 := by have := (List.getElem?_eq_some_iff.1 hj).1; omega
      rw [← Go.Deep.add_add, hat j hjl, hj]
    have hnm : n ≤ maxLen := Nat.le_trans hl hm
    by_cases hn : 0 < n
    · obtain ⟨ab, ao, spot⟩ := a
      obtain ⟨o0, h0, _⟩ := key 0 hn
      have h00 := h0 0 _ rfl
      have hspot : spot = none := by simpa [Addr.add] using World.cell?_spot h00
      subst hspot
      rw [Addr.add_lit] at h00
      obtain ⟨os, hl', hx'⟩ := list_of (α := Bd) (P := fun j o => BdAt W ab (ao + j * 5) o ∧ o.name_.size ≤ maxLen ∧ o.text_.size ≤ maxLen) (n := n) fun i hin => by
        obtain ⟨o, hc, ho⟩ := key i hin
        have hc' : ∀ j v, (Bd.vs o)[j]? = some v → W.cell? ⟨ab, ao + i * 5 + j, none⟩ = some v := by
          intro j v hj
          have := hc j v hj
          rw [Addr.add_lit, ← Nat.add_assoc] at this
          exact this
        exact ⟨o, ⟨hc' 0 _ rfl, hc' 1 _ rfl, hc' 2 _ rfl, hc' 3 _ rfl, hc' 4 _ rfl⟩, ho⟩
      exact ⟨os, hl', hnm, fun _ => ⟨ab, ao, rfl, World.block_lt_of_cell? W ⟨ab, _, none⟩ h00, hx'⟩⟩
    · exact ⟨[], by simp; omega, hnm, fun h => absurd h hn⟩
end
theorem open_Bd {H : Type} {enc : TypeId × Value → H} {W : World} {A : Option Addr} {n c : Nat} {d : DataW H} {p : List MemPlace} (h : DataW.Trod enc Tryz.prog W 0 (fun _ => true) true 44 (.slice A n c) d p) :
    ∃ xs, BdI W W.heap.size A n xs := by
  obtain ⟨fuel, hf⟩ := h
  exact open_BdF (by simpa [Value.cells] using hf)

/-- A Binding's texts' bytes. -/
def szBd1 (x : Bd) : Nat := x.name_.size + x.text_.size
/-- Those of the first k. -/
def sumBd (xs : List Bd) : Nat → Nat
  | 0 => 0
  | k + 1 => sumBd xs k + ((xs[k]?.map szBd1).getD 0)
theorem sumBd_next {xs : List Bd} {k : Nat} {x : Bd} (h : xs[k]? = some x) : sumBd xs (k + 1) = sumBd xs k + szBd1 x := by
  rw [sumBd, h]
  rfl
theorem sumBd_mono {xs : List Bd} {j : Nat} : ∀ {k : Nat}, j ≤ k → sumBd xs j ≤ sumBd xs k
  | 0, h => by obtain rfl : j = 0 := by omega
               exact Nat.le_refl _
  | k + 1, h => by
    by_cases e : j = k + 1
    · rw [e]; exact Nat.le_refl _
    · have := sumBd_mono (xs := xs) (show j ≤ k by omega)
      rw [sumBd]
      omega
/-- What szBindingS takes of the bound. -/
def szBd (xs : List Bd) : Nat := xs.length + sumBd xs xs.length

set_option maxRecDepth 100000 in
theorem szBinding_any (x : Bd) (L : Int) (W : World) (h0 : 0 ≤ L) (hL : L ≤ 1048576) (hm0 : x.name_.size ≤ maxLen) (hm3 : x.text_.size ≤ maxLen) :
    Calls Tryz.prog 111 #[x.ag, .int .i64 L] W (SzL (szBd1 x) L W) := by
  obtain ⟨s, hs⟩ : ∃ s, szBd1 x = s := ⟨_, rfl⟩
  rw [hs]
  unfold szBd1 at hs
  obtain ⟨x0, x1, x2, x3, x4⟩ := x
  dsimp only at hs hm0 hm3
  have HS := Lib.hid hs
  have HM3 := Lib.hid hm3
  have HL0 := Lib.hid h0
  have HL1 := Lib.hid hL
  unfold maxLen at hm0
  clear hs hm3
  show Calls Tryz.prog 111 #[.agg #[.string x0, .int .i64 x1, .int .i64 x2, .string x3, .int .i64 x4], .int .i64 L] W _
  by_cases c0 : (x0.size : Int) ≤ L
  · have d0 : decide (L - (x0.size : Int) < 0) = false := by simp; omega
    have HC0 := Lib.hid c0
    by_cases c1 : (x0.size : Int) + (x3.size : Int) ≤ L
    · have HC1 := Lib.hid c1
      have HX : Hid ((s : Int) ≤ L) := by have := HS.out; show _ ≤ _; omega
      have HE : Hid (L - (x0.size : Int) - (x3.size : Int) = L - (s : Int)) := by have := HS.out; show _ = _; omega
      have d1 : decide (L - (x0.size : Int) - (x3.size : Int) < 0) = false := by simp; omega
      clear c0 c1
      go_enter Tryz.func111, Tryz.ntmps111
      go_wp2_with (go_at_call 6; refine (szValue_fits _ _ _ _ _ _ (by have := HC1.out; omega) (by have := HL1.out; omega)).mono ?_; rintro e w1 ⟨rfl, hb⟩; have HB1 : Hid (Below W.heap.size W w1) := ((below_alloc _ _).trans (hb.mono (by simp))); clear hb)
      go_ret
      exact ⟨.inl ⟨HX.out, by rw [HE.out]; rfl⟩, HB1.out⟩
    · have HC1 := Lib.hid c1
      have HX : Hid (L < (s : Int)) := by have := HS.out; show _ < _; omega
      clear c0 c1
      go_enter Tryz.func111, Tryz.ntmps111
      go_wp2_with (go_at_call 6; refine (szValue_long _ _ _ _ _ _ (by have := HC1.out; omega) (by have := HC0.out; omega) (by have := HL1.out; omega) HM3.out).mono ?_; rintro e w1 ⟨rfl, hb⟩; have HB1 : Hid (Below W.heap.size W w1) := ((below_alloc _ _).trans (hb.mono (by simp))); clear hb)
      go_ret
      exact ⟨.inr ⟨HX.out, rfl⟩, HB1.out⟩
  · have d0 : decide (L - (x0.size : Int) < 0) = true := by simp; omega
    have HX : Hid (L < (s : Int)) := by have := HS.out; show _ < _; omega
    go_enter Tryz.func111, Tryz.ntmps111
    go_wp2_with fail
    go_ret
    exact ⟨.inr ⟨HX.out, rfl⟩, below_alloc _ _⟩

set_option maxHeartbeats 1000000 in
set_option maxRecDepth 100000 in
theorem szBindingS_any (A : Option Addr) (n c : Nat) (xs : List Bd) (L : Int) (W : World) (hr : BdI W W.heap.size A n xs) (h0 : 0 ≤ L) (hL : L ≤ 1048576) :
    Calls Tryz.prog 71 #[.slice A n c, .int .i64 L] W (SzL (szBd xs) L W) := by
  have HR := Lib.hid hr
  have hn := hr.2.1
  have hxn := hr.1
  clear hr
  obtain ⟨s, hs⟩ : ∃ s, szBd xs = s := ⟨_, rfl⟩
  have HS : Hid (s = n + sumBd xs n) := by show _ = _; rw [← hs, szBd, hxn]
  rw [hs]
  clear hs hxn
  unfold maxLen at hn
  by_cases hbig : L < (n : Int)
  · have HB : Hid (L < (s : Int)) := by show _ < _; have := HS.out; omega
    have h2 : (n : Int) ≤ 9223372036854775807 := by omega
    have d0 : decide (L - n < 0) = true := by simp; omega
    go_enter Tryz.func71, Tryz.ntmps71
    go_wp2_with fail
    go_ret
    exact ⟨.inr ⟨HB.out, rfl⟩, Below.refl _ _⟩
  · have h1 : (n : Int) ≤ L := by omega
    have hn' : n ≤ 1048576 := by omega
    have d0 : decide (L - n < 0) = false := by simp; omega
    clear hbig
    go_enter Tryz.func71, Tryz.ntmps71
    go_wp2_with fail
    go_loopw [1, 5] (fun q i wr => ∃ k : Nat, ∃ z : Int, k ≤ n ∧ i = .int .i64 k ∧ q = .int .i64 z ∧ 0 ≤ z ∧ z ≤ 1048576 ∧ Hid (z = L - (n : Int) - (sumBd xs k : Int)) ∧ Hid (Below W.heap.size W wr)) (fun _ i _ => n - (intOf i).toNat)
    case atStart => exact ⟨0, _, Nat.zero_le _, rfl, rfl, by omega, by omega, by show _ = _; simp [sumBd], Below.refl _ _⟩
    case round =>
      obtain ⟨k, z, hk, rfl, rfl, hz0, hz1, HZ, HW⟩ := hrel
      by_cases hlt : k < n
      · obtain ⟨b, off, x, rfl, hg, hx, ⟨q0, q1, q2, q3, q4⟩, hm0, hm3⟩ := (HR.out.below HW.out).at_ hlt
        have HX := Lib.hid hx
        have b0 : (0 : Int) ≤ (k : Int) := by omega
        have b1 : (k : Int) < (n : Int) := by omega
        have HZ0 : Hid (0 ≤ z) := hz0
        have HZ1 : Hid (z ≤ 1048576) := hz1
        have HC := Lib.hid (fun w => szBinding_any x z w hz0 hz1 hm0 hm3)
        clear hx hg hm0 hm3
        by_cases hf : (szBd1 x : Int) ≤ z
        · have HF := Lib.hid hf
          have HN : Hid (sumBd xs (k + 1) = sumBd xs k + szBd1 x) := sumBd_next HX.out
          clear hf
          go_wp2_with (go_at_call 111; refine (HC.out _).mono ?_; intro e w1 h; obtain ⟨z1, rfl, hz2, l1, u1, hb⟩ := h.fits HF.out HZ1.out; have Z1 := Lib.hid hz2; have dz : decide (z1 < 0) = false := (by simp; omega); have HW1 : Hid (Below W.heap.size W w1) := HW.out.trans (hb.mono HW.out.size); clear hb hz2)
          go_roundw
          case rel => exact ⟨k + 1, _, by omega, by go_num, rfl, by omega, by omega, by show _ = _; rw [HN.out, Z1.out, HZ.out]; omega, HW1⟩
          case measure => simp [intOf]; omega
        · have HF := Lib.hid hf
          have HBIG : Hid (L < (s : Int)) := by
            show _ < _
            have h1 := sumBd_mono (xs := xs) (j := k + 1) (k := n) (by omega)
            rw [sumBd_next HX.out] at h1
            have h2 := HZ.out
            have h3 := HS.out
            omega
          clear hf
          go_wp2_with (go_at_call 111; refine (HC.out _).mono ?_; intro e w1 h; obtain ⟨rfl, hb⟩ := h.long HF.out; have HW1 : Hid (Below W.heap.size W w1) := HW.out.trans (hb.mono HW.out.size); clear hb)
          go_ret
          exact ⟨.inr ⟨HBIG.out, rfl⟩, HW1.out⟩
      · have hkn : k = n := by omega
        have HE : Hid ((s : Int) ≤ L ∧ z = L - (s : Int)) := by
          have h := HZ.out
          have h3 := HS.out
          rw [hkn] at h
          exact ⟨by omega, by omega⟩
        go_wp2_with fail
        go_ret
        exact ⟨.inl ⟨HE.out.1, by rw [HE.out.2]; rfl⟩, HW.out⟩


set_option maxHeartbeats 1000000 in
theorem toBinding_any (x : Bd) (W : World) :
    Calls Tryz.prog 119 #[x.ag] W fun e w' => e = .returned x.ag ∧ Below W.heap.size W w' := by
  obtain ⟨x0, x1, x2, x3, x4⟩ := x
  show Calls Tryz.prog 119 #[.agg #[.string x0, .int .i64 x1, .int .i64 x2, .string x3, .int .i64 x4]] W _
  have HC := Lib.hid (fun (X Y : World) (T T' : TypeId) (c c' : Array Value) (eY : Y = W.alloc (.cells #[.string x0, .int .i64 x1, .int .i64 x2, .string x3, .int .i64 x4] T)) (eX : X = (Y.alloc (.cells c T')).alloc (.cells c' T')) =>
    (show RW T' X (W.heap.size + 1 + 1) c' ∧ RW T' X (W.heap.size + 1) c ∧ Below W.heap.size W X ∧ X.heap.size = W.heap.size + 3 from by
      subst eX; subst eY
      refine ⟨?_, ?_, ((below_alloc _ _).alloc (by simp) _).alloc (by simp; omega) _, by simp⟩
      · have := RW.new ((W.alloc (.cells #[.string x0, .int .i64 x1, .int .i64 x2, .string x3, .int .i64 x4] T)).alloc (.cells c T')) c' T'
        simpa using this
      · have := (RW.new (W.alloc (.cells #[.string x0, .int .i64 x1, .int .i64 x2, .string x3, .int .i64 x4] T)) c T').alloc (.cells c' T')
        simpa using this))
  go_enter Tryz.func119, Tryz.ntmps119
  go_wp2_with (go_at_call 9; obtain ⟨g1, g4, g2, g3⟩ := HC.out _ _ _ _ _ _ rfl rfl; refine (toValue_any _ _ _ _ _).mono ?_; rintro e w1 ⟨rfl, hb⟩; have HR1 := Lib.hid (g1.below hb (by omega)); have HO1 := Lib.hid (g4.below hb (by omega)); have HB1 := Lib.hid (g2.trans (hb.mono g2.size)); have hsz1 := hb.size; have HG1 : Hid (W.heap.size + 3 ≤ w1.heap.size) := (by show _ ≤ _; omega); have p0 : w1.cell? ⟨W.heap.size + 1 + 1, 0, none⟩ = some (.string x0) := HR1.out.cell 0; have f0 := HR1.out.frozen 0; have r0 : w1.cell? ⟨W.heap.size + 1, 0, none⟩ = some (.string ⟨#[]⟩) := HO1.out.cell 0; have z0 := HO1.out.frozen 0; have p1 : w1.cell? ⟨W.heap.size + 1 + 1, 1, none⟩ = some (.int .i64 0) := HR1.out.cell 1; have f1 := HR1.out.frozen 1; have r1 : w1.cell? ⟨W.heap.size + 1, 1, none⟩ = some (.int .i64 0) := HO1.out.cell 1; have z1 := HO1.out.frozen 1; have p2 : w1.cell? ⟨W.heap.size + 1 + 1, 2, none⟩ = some (.int .i64 0) := HR1.out.cell 2; have f2 := HR1.out.frozen 2; have r2 : w1.cell? ⟨W.heap.size + 1, 2, none⟩ = some (.int .i64 0) := HO1.out.cell 2; have z2 := HO1.out.frozen 2; have p3 : w1.cell? ⟨W.heap.size + 1 + 1, 3, none⟩ = some (.string ⟨#[]⟩) := HR1.out.cell 3; have f3 := HR1.out.frozen 3; have r3 : w1.cell? ⟨W.heap.size + 1, 3, none⟩ = some (.string ⟨#[]⟩) := HO1.out.cell 3; have z3 := HO1.out.frozen 3; have p4 : w1.cell? ⟨W.heap.size + 1 + 1, 4, none⟩ = some (.int .i64 0) := HR1.out.cell 4; have f4 := HR1.out.frozen 4; have r4 : w1.cell? ⟨W.heap.size + 1, 4, none⟩ = some (.int .i64 0) := HO1.out.cell 4; have z4 := HO1.out.frozen 4; clear g1 g2 g3 g4 hb hsz1)
  have hs1 := HG1.out
  refine bodyPost_ret (v := .agg #[.string x0, .int .i64 x1, .int .i64 x2, .string x3, .int .i64 x4]) (results_cell_row Tryz.results119 _ _ (W.heap.size + 1) 115 _ (0, 0) _ rfl ((((((((((((((((((HO1.out).other (p := ⟨W.heap.size + 1 + 1, 1, none⟩) (by simp) (.int .i64 x1))).other (p := ⟨W.heap.size + 1 + 1, 2, none⟩) (by simp) (.int .i64 x2))).other (p := ⟨W.heap.size + 1 + 1, 3, none⟩) (by simp) (.string x3))).other (p := ⟨W.heap.size + 1 + 1, 4, none⟩) (by simp) (.int .i64 x4))).set_ 0 (.string x0))).set_ 1 (.int .i64 x1))).set_ 2 (.int .i64 x2))).set_ 3 (.string x3))).set_ 4 (.int .i64 x4)) Tryz.underlying115 rfl (by kernel_rfl)) rfl ⟨rfl, HB1.out.trans (((((((((((((((((((below_set w1 (B := W.heap.size + 1) (p := ⟨W.heap.size + 1 + 1, 1, none⟩) (by simp) (.int .i64 x1))).setCell (p := ⟨W.heap.size + 1 + 1, 2, none⟩) (by simp) (.int .i64 x2))).setCell (p := ⟨W.heap.size + 1 + 1, 3, none⟩) (by simp) (.string x3))).setCell (p := ⟨W.heap.size + 1 + 1, 4, none⟩) (by simp) (.int .i64 x4))).setCell (p := ⟨W.heap.size + 1, 0, none⟩) (by simp) (.string x0))).setCell (p := ⟨W.heap.size + 1, 1, none⟩) (by simp) (.int .i64 x1))).setCell (p := ⟨W.heap.size + 1, 2, none⟩) (by simp) (.int .i64 x2))).setCell (p := ⟨W.heap.size + 1, 3, none⟩) (by simp) (.string x3))).setCell (p := ⟨W.heap.size + 1, 4, none⟩) (by simp) (.int .i64 x4))).mono (by omega))⟩

/-- The elements of block g ahead of j are filled. -/
def FilledBd (w : World) (g j n : Nat) (xs : List Bd) : Prop := ∃ cs, RW 115 w g cs ∧ n * 5 ≤ cs.size ∧ ∀ (i q : Nat) (x : Bd) (v : Value), i < j → xs[i]? = some x → x.vs[q]? = some v → cs[i * 5 + q]? = some v
theorem infoBd : (Tryz.prog.info? 115).map (fun i => (i.zero, i.size, i.bytes)) = some (some (Value.agg #[.string ⟨#[]⟩, .int .i64 0, .int .i64 0, .string ⟨#[]⟩, .int .i64 0]), 5, 56) := by kernel_rfl
theorem ownBd {w : World} {B g n : Nat} {xs : List Value} (h : w.ownsRow B 115 5 (.slice (some ⟨g, 0, none⟩) n n) n xs) : ∃ cs, RW 115 w g cs ∧ n * 5 ≤ cs.size := by
  rcases h.2 with ⟨h', _⟩ | ⟨g', cap', cur, h', _, hg, _, _, hsz, _⟩
  · simp at h'
  · simp only [Value.slice.injEq, Option.some.injEq, Addr.mk.injEq, and_true, true_and] at h'
    obtain ⟨rfl, rfl⟩ := h'
    exact ⟨cur, hg, by omega⟩
theorem size_setsBd (vs : List Value) (w : World) (g k : Nat) : (w.setCells g k vs).heap.size = w.heap.size := by
  induction vs generalizing w k with
  | nil => rfl
  | cons v r ih => exact (ih _ _).trans (size_set _ _ _)
theorem FilledBd.store {w : World} {g j n : Nat} {xs : List Bd} {x : Bd} (h : FilledBd w g j n xs) (hx : xs[j]? = some x) (hj : j < n) : FilledBd (w.setCells g (j * 5) x.vs) g (j + 1) n xs := by
  obtain ⟨cs, hr, hn, hm⟩ := h
  have hlK : x.vs.length = 5 := rfl
  refine ⟨_, hr.cells, by rw [putL_size]; exact hn, fun i q y v hi hy hv => ?_⟩
  by_cases e : i = j
  · subst e
    rw [hx, Option.some.injEq] at hy
    subst hy
    exact putL_new _ _ _ _ _ (by rw [hlK]; omega) hv
  · have hqK : q < 5 := (List.getElem?_eq_some_iff.1 hv).1
    rw [putL_old _ _ _ _ (by omega)]
    exact hm i q y v (by omega) hy hv
theorem FilledBd.below {w w' : World} {g j n : Nat} {xs : List Bd} (h : FilledBd w g j n xs) (hb : Below w.heap.size w w') : FilledBd w' g j n xs := by
  obtain ⟨cs, hr, hn, hm⟩ := h
  exact ⟨cs, hr.below hb hr.lt, hn, hm⟩
/-- What toBindingS answers: a slice at the head of the first new block. -/
def ToBd (xs : List Bd) (n : Nat) (W : World) (e : Ending) (w' : World) : Prop :=
  e = .returned (.slice (some ⟨W.heap.size, 0, none⟩) n n) ∧ Hid (BdI w' w'.heap.size (some ⟨W.heap.size, 0, none⟩) n xs ∧ Below W.heap.size W w')

set_option maxHeartbeats 2000000 in
set_option maxRecDepth 100000 in
theorem toBindingS_any (A : Option Addr) (n c : Nat) (xs : List Bd) (W : World) (hr : BdI W W.heap.size A n xs) (hn : n ≤ 1048576) :
    Calls Tryz.prog 80 #[.slice A n c] W (ToBd xs n W) := by
  obtain ⟨i0, hi, hz0, hz1, hz2⟩ := info_parts infoBd
  have HR := Lib.hid hr
  have h1 : (n : Int) ≤ 1048576 := by omega
  clear hr
  go_enter Tryz.func80, Tryz.ntmps80
  go_wp2_with (at_make; refine wpList_make_full _ rfl _ _ 56 rfl W.heap.size 115 i0 (.agg #[.string ⟨#[]⟩, .int .i64 0, .int .i64 0, .string ⟨#[]⟩, .int .i64 0]) 5 Tryz.underlying56 hi hz0 hz1 .i64 .i64 n n n rfl rfl rfl rfl (by rw [hz2]; omega) (by unfold maxLen; omega) (Nat.le_refl _) ?_)
  intro w1 hown hgrow
  have HB1 : Hid (Below W.heap.size W w1) := below_grown_none hgrow
  obtain ⟨cs, hcs, hcn⟩ := ownBd hown
  have HG : Hid (W.heap.size < w1.heap.size) := hcs.lt
  have HM : Hid (FilledBd w1 W.heap.size 0 n xs) := ⟨cs, hcs, hcn, fun i q x v hi => absurd hi (by omega)⟩
  clear hown hgrow hcs hcn hi hz0 hz1 hz2
  go_wp2_with fail
  go_loopw [4] (fun i wr => ∃ j : Nat, j ≤ n ∧ i = .int .i64 j ∧ Hid (Below W.heap.size W wr) ∧ Hid (W.heap.size < wr.heap.size) ∧ Hid (FilledBd wr W.heap.size j n xs)) (fun i _ => n - (intOf i).toNat)
  case atStart => exact ⟨0, Nat.zero_le _, rfl, HB1, HG, HM⟩
  case round =>
    obtain ⟨j, hj, rfl, HW, HZ, HJ⟩ := hrel
    by_cases hlt : j < n
    · obtain ⟨b, off, x, rfl, hg, hx, ⟨q0, q1, q2, q3, q4⟩, hxs⟩ := (HR.out.below HW.out).at_ hlt
      obtain ⟨x0, x1, x2, x3, x4⟩ := x
      dsimp only at q0 q1 q2 q3 q4 hxs
      have HX := Lib.hid hx
      have HLT := Lib.hid hlt
      clear hx hxs hg
      have b0 : (0 : Int) ≤ (j : Int) := by omega
      have b1 : (j : Int) < (n : Int) := by omega
      go_wp2_with (first | (go_at_call 119; refine (toBinding_any ⟨x0, x1, x2, x3, x4⟩ _).mono ?_; rintro e w2 ⟨rfl, hb⟩; have HF := Lib.hid (HJ.out.below hb); have hlt2 := HLT.out; have HF2 : Hid (FilledBd (w2.setCells W.heap.size (j * 5) [.string x0, .int .i64 x1, .int .i64 x2, .string x3, .int .i64 x4]) W.heap.size (j + 1) n xs) := (by have k := HF.out.store HX.out hlt2; unfold Bd.vs at k; exact k); have HT : Hid (w2.there W.heap.size (j * 5) 5) := (by obtain ⟨cs, hr, hc, _⟩ := HF.out; exact hr.there (by omega)); have HW2 : Hid (Below W.heap.size W (w2.setCells W.heap.size (j * 5) [.string x0, .int .i64 x1, .int .i64 x2, .string x3, .int .i64 x4])) := ((HW.out.trans (hb.mono HW.out.size)).trans (below_cells (Nat.le_refl _) _ _ _)); have HZ2 : Hid (W.heap.size < (w2.setCells W.heap.size (j * 5) [.string x0, .int .i64 x1, .int .i64 x2, .string x3, .int .i64 x4]).heap.size) := (by obtain ⟨_, hr, _⟩ := HF2.out; exact hr.lt); have tk1 : True := trivial; clear hb hlt2 q0 q1 q2 q3 q4) | (clear tk1; refine wpList_store_mid rfl 115 (.tmp 21) (.tmp 20) rfl W.heap.size (j * 5) _ rfl rfl HT.out (by kernel_rfl) (by kernel_rfl) ?_; go_frame; clear HT; generalize w2.setCells W.heap.size (j * 5) [.string x0, .int .i64 x1, .int .i64 x2, .string x3, .int .i64 x4] = w3 at HF2 HW2 HZ2 ⊢))
      go_roundw
      case rel => exact ⟨j + 1, by omega, by go_num, HW2, HZ2, HF2⟩
      case measure => simp [intOf]; omega
    · have HN : Hid (j = n) := by show _ = _; omega
      go_wp2_with fail
      go_ret
      refine ⟨rfl, Lib.hid ⟨⟨HR.out.1, HR.out.2.1, fun _ => ⟨W.heap.size, 0, rfl, HZ.out, fun i x hx => ?_⟩⟩, HW.out⟩⟩
      obtain ⟨cs, hs, hcs, hm⟩ := HJ.out
      have hil : i < xs.length := (List.getElem?_eq_some_iff.1 hx).1
      have hij : i < j := by have := HN.out; have := HR.out.1; omega
      obtain ⟨_, _, _, _, hc⟩ := HR.out.2.2 (by have := HR.out.1; omega)
      rw [Nat.zero_add]
      exact ⟨⟨(hs.cell _).trans (hm i 0 x _ hij hx rfl), (hs.cell _).trans (hm i 1 x _ hij hx rfl), (hs.cell _).trans (hm i 2 x _ hij hx rfl), (hs.cell _).trans (hm i 3 x _ hij hx rfl), (hs.cell _).trans (hm i 4 x _ hij hx rfl)⟩, (hc i x hx).2⟩
end Go.Proofs.YtfcpdjfckeoniaaGreatDoor

namespace Go.Proofs.YtfcpdjfckeoniaaGreatDoor
open Go Go.RowKit

set_option maxRecDepth 100000 in
theorem eqBinding_same (x : Bd) (W : World) :
    Calls Tryz.prog 127 #[x.ag, x.ag] W fun e w' => e = .returned (.bool true) ∧ Below W.heap.size W w' := by
  obtain ⟨x0, x1, x2, x3, x4⟩ := x
  show Calls Tryz.prog 127 #[.agg #[.string x0, .int .i64 x1, .int .i64 x2, .string x3, .int .i64 x4], .agg #[.string x0, .int .i64 x1, .int .i64 x2, .string x3, .int .i64 x4]] W _
  have HC := Lib.hid (two_new W 115 #[.string x0, .int .i64 x1, .int .i64 x2, .string x3, .int .i64 x4] #[.string x0, .int .i64 x1, .int .i64 x2, .string x3, .int .i64 x4])
  go_enter Tryz.func127, Tryz.ntmps127
  go_wp2_with (go_at_call 155; obtain ⟨_, _, g2, _⟩ := HC.out _ rfl; refine (eqValue_same _ _ _ _ _).mono ?_; rintro e w1 ⟨rfl, hb⟩; have HB1 := Lib.hid (g2.trans (hb.mono g2.size)); clear g2 hb)
  all_goals go_ret
  all_goals exact ⟨rfl, HB1.out⟩

/-- Two of them in two blocks. -/
abbrev TwoBd (w : World) (b b' o o' : Nat) (x0 : ByteArray) (x1 : Int) (x2 : Int) (x3 : ByteArray) (x4 : Int) (y0 : ByteArray) (y1 : Int) (y2 : Int) (y3 : ByteArray) (y4 : Int) : Prop :=
  (w.cell? ⟨b, o, none⟩ = some (.string x0) ∧ w.cell? ⟨b, o + 1, none⟩ = some (.int .i64 x1) ∧ w.cell? ⟨b, o + 2, none⟩ = some (.int .i64 x2) ∧ w.cell? ⟨b, o + 3, none⟩ = some (.string x3) ∧ w.cell? ⟨b, o + 4, none⟩ = some (.int .i64 x4)) ∧ (w.cell? ⟨b', o', none⟩ = some (.string y0) ∧ w.cell? ⟨b', o' + 1, none⟩ = some (.int .i64 y1) ∧ w.cell? ⟨b', o' + 2, none⟩ = some (.int .i64 y2) ∧ w.cell? ⟨b', o' + 3, none⟩ = some (.string y3) ∧ w.cell? ⟨b', o' + 4, none⟩ = some (.int .i64 y4))
theorem twoBd_keep {wr wx w1 : World} {b b' o o' : Nat} {x0 : ByteArray} {x1 : Int} {x2 : Int} {x3 : ByteArray} {x4 : Int} {y0 : ByteArray} {y1 : Int} {y2 : Int} {y3 : ByteArray} {y4 : Int} (hg : b < wr.heap.size) (hg' : b' < wr.heap.size) (h : TwoBd wx b b' o o' x0 x1 x2 x3 x4 y0 y1 y2 y3 y4 ∧ Below wr.heap.size wr wx) (hb : Below wx.heap.size wx w1) :
    TwoBd w1 b b' o o' x0 x1 x2 x3 x4 y0 y1 y2 y3 y4 ∧ Below wr.heap.size wr w1 := by
  have l := Nat.lt_of_lt_of_le hg h.2.size
  have l' := Nat.lt_of_lt_of_le hg' h.2.size
  have a := BdAt.below (x := ⟨x0, x1, x2, x3, x4⟩) h.1.1 hb l
  have b := BdAt.below (x := ⟨y0, y1, y2, y3, y4⟩) h.1.2 hb l'
  exact ⟨⟨a, b⟩, h.2.trans (hb.mono h.2.size)⟩

set_option maxHeartbeats 1000000 in
set_option maxRecDepth 100000 in
theorem eqBindingS_same (A A' : Option Addr) (n c c' : Nat) (xs : List Bd) (W : World) (ha : BdI W W.heap.size A n xs) (hb : BdI W W.heap.size A' n xs) :
    Calls Tryz.prog 92 #[.slice A n c, .slice A' n c'] W fun e w' => e = .returned (.bool true) ∧ Below W.heap.size W w' := by
  have HA := Lib.hid ha
  have HB := Lib.hid hb
  have hn := ha.2.1
  unfold maxLen at hn
  clear ha hb
  go_enter Tryz.func92, Tryz.ntmps92
  go_wp2
  go_loopw [5] (fun i wr => ∃ k : Nat, k ≤ n ∧ i = .int .i64 k ∧ Hid (Below W.heap.size W wr)) (fun i _ => n - (intOf i).toNat)
  case atStart => exact ⟨0, Nat.zero_le _, rfl, Below.refl _ _⟩
  case round =>
    obtain ⟨k, hk, rfl, HW⟩ := hrel
    by_cases hlt : k < n
    · obtain ⟨b, off, x, rfl, hg, hx, h1, _⟩ := HA.out.at_ hlt
      obtain ⟨b', off', x', rfl, hg', hx', h2, _⟩ := HB.out.at_ hlt
      obtain rfl : x = x' := Option.some.inj (hx.symm.trans hx')
      obtain ⟨p0, p1, p2, p3, p4⟩ := h1.below HW.out hg
      obtain ⟨q0, q1, q2, q3, q4⟩ := h2.below HW.out hg'
      obtain ⟨x0, x1, x2, x3, x4⟩ := x
      dsimp only at p0 p1 p2 p3 p4 q0 q1 q2 q3 q4
      have b0 : (0 : Int) ≤ (k : Int) := by omega
      have b1 : (k : Int) < (n : Int) := by omega
      clear h1 h2 hx hx'
      have HG : Hid (b < wr.heap.size) := Nat.lt_of_lt_of_le hg HW.out.size
      have HG' : Hid (b' < wr.heap.size) := Nat.lt_of_lt_of_le hg' HW.out.size
      clear hg hg'
      go_wp2_with fail
      go_region_held3 (fun w' => TwoBd w' b b' (off + k * 5) (off' + k * 5) x0 x1 x2 x3 x4 x0 x1 x2 x3 x4 ∧ Below wr.heap.size wr w')
        (first | (exact ⟨⟨⟨p0, p1, p2, p3, p4⟩, ⟨q0, q1, q2, q3, q4⟩⟩, (Below.refl _ _).drew⟩) | (go_split_ands; exact twoBd_keep HG.out HG'.out ⟨⟨⟨by assumption, by assumption, by assumption, by assumption, by assumption⟩, ⟨by assumption, by assumption, by assumption, by assumption, by assumption⟩⟩, by assumption⟩ hb) | go_keep)
        ((go_at_call 127; refine (eqBinding_same ⟨x0, x1, x2, x3, x4⟩ _).mono ?_; rintro e w1 ⟨rfl, hb⟩))
      go_wp2_with fail
      go_split_ands
      go_roundw
      case rel => exact ⟨k + 1, by omega, by go_num, HW.out.trans (Below.mono (by assumption) HW.out.size)⟩
      case measure => simp [intOf]; omega
    · go_wp2_with fail
      go_ret
      exact ⟨rfl, HW.out⟩
end Go.Proofs.YtfcpdjfckeoniaaGreatDoor

namespace Go.Proofs.YtfcpdjfckeoniaaGreatDoor
open Go Go.RowKit

set_option maxHeartbeats 1000000 in
set_option maxRecDepth 100000 in
theorem eqStringS_same (A A' : Option Addr) (n c c' : Nat) (xs : List St) (W : World) (ha : StI W W.heap.size A n xs) (hb : StI W W.heap.size A' n xs) :
    Calls Tryz.prog 29 #[.slice A n c, .slice A' n c'] W fun e w' => e = .returned (.bool true) ∧ Below W.heap.size W w' := by
  have HA := Lib.hid ha
  have HB := Lib.hid hb
  have hn := ha.2.1
  unfold maxLen at hn
  clear ha hb
  go_enter Tryz.func29, Tryz.ntmps29
  go_wp2
  go_loopw [5] (fun i wr => ∃ k : Nat, k ≤ n ∧ i = .int .i64 k ∧ Hid (Below W.heap.size W wr)) (fun i _ => n - (intOf i).toNat)
  case atStart => exact ⟨0, Nat.zero_le _, rfl, Below.refl _ _⟩
  case round =>
    obtain ⟨k, hk, rfl, HW⟩ := hrel
    by_cases hlt : k < n
    · obtain ⟨b, off, x, rfl, hg, hx, h1, _⟩ := HA.out.at_ hlt
      obtain ⟨b', off', x', rfl, hg', hx', h2, _⟩ := HB.out.at_ hlt
      obtain rfl : x = x' := Option.some.inj (hx.symm.trans hx')
      have q1 := (HW.out.cell (p := ⟨b, off + k, none⟩) hg).trans h1
      have q2 := (HW.out.cell (p := ⟨b', off' + k, none⟩) hg').trans h2
      have b0 : (0 : Int) ≤ (k : Int) := by omega
      have b1 : (k : Int) < (n : Int) := by omega
      clear h1 h2 hx hx' hg hg'
      go_wp2_with fail
      go_quiet (fail)
      go_wp2_with fail
      go_roundw
      case rel => exact ⟨k + 1, by omega, by go_num, below_drewN HW.out _⟩
      case measure => simp [intOf]; omega
    · go_wp2_with fail
      go_ret
      exact ⟨rfl, HW.out⟩
end Go.Proofs.YtfcpdjfckeoniaaGreatDoor

namespace Go.Proofs.YtfcpdjfckeoniaaGreatDoor
open Go Go.RowKit

structure Fn where
  name_ : ByteArray
  params_ : List St
  locals_ : List St
  label_ : ByteArray
/-- Where its lists lie. -/
structure FnLay where
  A1 : Option Addr
  n1 : Nat
  c1 : Nat
  h1 : n1 ≤ c1
  A2 : Option Addr
  n2 : Nat
  c2 : Nat
  h2 : n2 ≤ c2
/-- As one value. -/
abbrev Fn.ag (x : Fn) (l : FnLay) : Value := .agg #[.string x.name_, .slice l.A1 l.n1 l.c1, .slice l.A2 l.n2 l.c2, .string x.label_]
def Fn.vs (x : Fn) (l : FnLay) : List Value := [.string x.name_, .slice l.A1 l.n1 l.c1, .slice l.A2 l.n2 l.c2, .string x.label_]
/-- Its lists lie below B. -/
def FnV (w : World) (B : Nat) (x : Fn) (l : FnLay) : Prop := StI w B l.A1 l.n1 x.params_ ∧ StI w B l.A2 l.n2 x.locals_ ∧ x.name_.size ≤ maxLen ∧ x.label_.size ≤ maxLen
theorem FnV.below {w w' : World} {B : Nat} {x : Fn} {l : FnLay} (h : FnV w B x l) (hb : Below B w w') : FnV w' B x l := by
  obtain ⟨h0, h1, h2, h3⟩ := h
  exact ⟨h0.below hb, h1.below hb, h2, h3⟩
theorem FnV.more {w : World} {B B' : Nat} {x : Fn} {l : FnLay} (h : FnV w B x l) (hB : B ≤ B') : FnV w B' x l := by
  obtain ⟨h0, h1, h2, h3⟩ := h
  exact ⟨h0.more hB, h1.more hB, h2, h3⟩
theorem FnV.go {W w : World} {x : Fn} {l : FnLay} (h : FnV W W.heap.size x l) (hb : Below W.heap.size W w) : FnV w w.heap.size x l := (h.below hb).more hb.size
theorem FnV.alloc {W : World} {x : Fn} {l : FnLay} (h : FnV W W.heap.size x l) (o : Obj) : FnV (W.alloc o) (W.alloc o).heap.size x l := h.go (below_alloc W o)
/-- Its cells from p on of block b. -/
def FnAt (w : World) (b p : Nat) (x : Fn) (l : FnLay) : Prop := w.cell? ⟨b, p, none⟩ = some (.string x.name_) ∧ w.cell? ⟨b, p + 1, none⟩ = some (.slice l.A1 l.n1 l.c1) ∧ w.cell? ⟨b, p + 2, none⟩ = some (.slice l.A2 l.n2 l.c2) ∧ w.cell? ⟨b, p + 3, none⟩ = some (.string x.label_)
theorem FnAt.below {w w' : World} {b p B : Nat} {x : Fn} {l : FnLay} (h : FnAt w b p x l) (hb : Below B w w') (hg : b < B) : FnAt w' b p x l := by
  obtain ⟨h0, h1, h2, h3⟩ := h
  exact ⟨(hb.cell (p := ⟨b, p, none⟩) hg).trans h0, (hb.cell (p := ⟨b, p + 1, none⟩) hg).trans h1, (hb.cell (p := ⟨b, p + 2, none⟩) hg).trans h2, (hb.cell (p := ⟨b, p + 3, none⟩) hg).trans h3⟩
theorem FnAt.range {w : World} {b p : Nat} {x : Fn} {l : FnLay} (h : FnAt w b p x l) : w.rangeAt b p (x.vs l) := by
  obtain ⟨h0, h1, h2, h3⟩ := h
  intro j v hj
  match j, hj with
  | 0, hj => cases hj; exact h0
  | 1, hj => cases hj; exact h1
  | 2, hj => cases hj; exact h2
  | 3, hj => cases hj; exact h3
  | j + 4, hj => simp [Fn.vs] at hj
/-- A slice of them that lies below B, with their lists. -/
def FnI (w : World) (B : Nat) (A : Option Addr) (n : Nat) (xs : List Fn) : Prop :=
  xs.length = n ∧ n ≤ maxLen ∧ (0 < n → ∃ b off, A = some ⟨b, off, none⟩ ∧ b < B ∧ ∀ (j : Nat) (x : Fn), xs[j]? = some x → ∃ l, FnAt w b (off + j * 4) x l ∧ FnV w B x l)
theorem FnI.below {w w' : World} {B n : Nat} {A : Option Addr} {xs : List Fn} (h : FnI w B A n xs) (hb : Below B w w') : FnI w' B A n xs :=
  ⟨h.1, h.2.1, fun hn => by
    obtain ⟨b, off, e, hg, hc⟩ := h.2.2 hn
    refine ⟨b, off, e, hg, fun j x hx => ?_⟩
    obtain ⟨l, h1, h2⟩ := hc j x hx
    exact ⟨l, h1.below hb hg, h2.below hb⟩⟩
theorem FnI.more {w : World} {B B' n : Nat} {A : Option Addr} {xs : List Fn} (h : FnI w B A n xs) (hB : B ≤ B') : FnI w B' A n xs :=
  ⟨h.1, h.2.1, fun hn => by
    obtain ⟨b, off, e, hg, hc⟩ := h.2.2 hn
    refine ⟨b, off, e, by omega, fun j x hx => ?_⟩
    obtain ⟨l, h1, h2⟩ := hc j x hx
    exact ⟨l, h1, h2.more hB⟩⟩
theorem FnI.at_ {w : World} {B n k : Nat} {A : Option Addr} {xs : List Fn} (h : FnI w B A n xs) (hk : k < n) : ∃ b off x l, A = some ⟨b, off, none⟩ ∧ b < B ∧ xs[k]? = some x ∧ FnAt w b (off + k * 4) x l ∧ FnV w B x l := by
  obtain ⟨b, off, e, hg, hc⟩ := h.2.2 (by omega)
  have hl : k < xs.length := by rw [h.1]; exact hk
  obtain ⟨l, h1, h2⟩ := hc k _ (List.getElem?_eq_getElem hl)
  exact ⟨b, off, xs[k], l, e, hg, List.getElem?_eq_getElem hl, h1, h2⟩
theorem FnI.go {W w : World} {A : Option Addr} {n : Nat} {xs : List Fn} (h : FnI W W.heap.size A n xs) (hb : Below W.heap.size W w) : FnI w w.heap.size A n xs := (h.below hb).more hb.size
theorem FnI.alloc {W : World} {A : Option Addr} {n : Nat} {xs : List Fn} (h : FnI W W.heap.size A n xs) (o : Obj) : FnI (W.alloc o) (W.alloc o).heap.size A n xs := h.go (below_alloc W o)

section
variable {H : Type} {enc : TypeId × Value → H} {W : World} {base : Nat} {held : Bool}
set_option maxRecDepth 100000 in
/-- Its cells, each with its own reading. -/
theorem open_FnN {fuel : Nat} {cs : List Value} {x : DataW H × List MemPlace} (h : DataW.trod enc Tryz.prog W base (fun _ => true) held fuel 166 cs = some x) :
    ∃ x l, cs = Fn.vs x l ∧ FnV W W.heap.size x l := by
  obtain ⟨ys, m, hm, _, hlen, _, hf⟩ := DataW.trod_struct Tryz.underlying166 h
  have hlen' : cs.length = 4 := hlen.trans (by kernel_rfl)
  match cs, hlen' with
  | [c0, c1, c2, c3], _ =>
    have hys : ∀ i, i < 4 → ∃ y, ys[i]? = some y := by
      intro i hi
      have : ys.length = 4 := by assumption
      exact ⟨_, List.getElem?_eq_getElem (by omega)⟩
    have f0 : DataW.trod enc Tryz.prog W base (fun _ => true) held m 9 [c0] = ys[0]? := field_at (i := 0) (o := 0) (k := 1) (T := 9) hf (by kernel_rfl) (by kernel_rfl)
    obtain ⟨y0, g0⟩ := hys 0 (by decide)
    rw [g0] at f0
    have f1 : DataW.trod enc Tryz.prog W base (fun _ => true) held m 22 [c1] = ys[1]? := field_at (i := 1) (o := 1) (k := 1) (T := 22) hf (by kernel_rfl) (by kernel_rfl)
    obtain ⟨y1, g1⟩ := hys 1 (by decide)
    rw [g1] at f1
    have f2 : DataW.trod enc Tryz.prog W base (fun _ => true) held m 22 [c2] = ys[2]? := field_at (i := 2) (o := 2) (k := 1) (T := 22) hf (by kernel_rfl) (by kernel_rfl)
    obtain ⟨y2, g2⟩ := hys 2 (by decide)
    rw [g2] at f2
    have f3 : DataW.trod enc Tryz.prog W base (fun _ => true) held m 9 [c3] = ys[3]? := field_at (i := 3) (o := 3) (k := 1) (T := 9) hf (by kernel_rfl) (by kernel_rfl)
    obtain ⟨y3, g3⟩ := hys 3 (by decide)
    rw [g3] at f3
    obtain ⟨z0, e0, _, hz0⟩ := DataW.trod_string Tryz.underlying9 f0
    obtain ⟨A1, n1, q1, hc1, e1⟩ := open_slice1 Tryz.underlying22 f1
    rw [e1] at f1
    obtain ⟨z1, hz1⟩ := open_StF f1
    obtain ⟨A2, n2, q2, hc2, e2⟩ := open_slice1 Tryz.underlying22 f2
    rw [e2] at f2
    obtain ⟨z2, hz2⟩ := open_StF f2
    obtain ⟨z3, e3, _, hz3⟩ := DataW.trod_string Tryz.underlying9 f3
    simp only [List.cons.injEq, and_true] at e0 e1 e2 e3
    subst e0 e1 e2 e3
    exact ⟨⟨z0, z1, z2, z3⟩, ⟨A1, n1, q1, hc1, A2, n2, q2, hc2⟩, rfl, hz1, hz2, hz0, hz3⟩
set_option maxRecDepth 100000 in
/-- An argument that is a slice. -/
theorem open_FnF {A : Option Addr} {n c fuel : Nat} {x : DataW H × List MemPlace} (hf : DataW.trod enc Tryz.prog W base (fun _ => true) held fuel 45 [.slice A n c] = some x) :
    ∃ xs, FnI W W.heap.size A n xs := by
  rcases Go.Deep.open_slice Tryz.underlying45 hf with ⟨h0, _⟩ | ⟨a, len, cap, m, k, D, Pl, hcs, hb, hl, hm, hmm, hx, hi⟩
  · simp at h0
    obtain ⟨rfl, rfl, rfl⟩ := h0
    exact ⟨[], rfl, Nat.zero_le _, fun h => absurd h (by omega)⟩
  · simp only [List.cons.injEq, Value.slice.injEq, and_true] at hcs
    obtain ⟨rfl, rfl, rfl⟩ := hcs
    simp only [if_true] at hmm
    have hC : Tryz.prog.cellsOf 166 = 4 := by kernel_rfl
    have key : ∀ i, i < n → ∃ o : Fn, ∃ l, (∀ j v, (Fn.vs o l)[j]? = some v → W.cell? (a.add (i * 4 + j)) = some v) ∧ FnV W W.heap.size o l := by
      intro i hin
      obtain ⟨cs', hc, ht'⟩ := hi i (by omega)
      rw [hC] at hc
      obtain ⟨o, l, e, ho⟩ := open_FnN ht'
      obtain ⟨_, hcl, hat⟩ := World.cells?_some hc
      refine ⟨o, l, fun j v hj => ?_, ho⟩
      rw [← e] at hj
      have hjl : j < 4 := by have := (List.getElem?_eq_some_iff.1 hj).1; omega
      rw [← Go.Deep.add_add, hat j hjl, hj]
    have hnm : n ≤ maxLen := Nat.le_trans hl hm
    by_cases hn : 0 < n
    · obtain ⟨ab, ao, spot⟩ := a
      obtain ⟨o0, l0, h0, _⟩ := key 0 hn
      have h00 := h0 0 _ rfl
      have hspot : spot = none := by simpa [Addr.add] using World.cell?_spot h00
      subst hspot
      rw [Addr.add_lit] at h00
      obtain ⟨os, hl', hx'⟩ := list_of (α := Fn) (P := fun j o => ∃ l, FnAt W ab (ao + j * 4) o l ∧ FnV W W.heap.size o l) (n := n) fun i hin => by
        obtain ⟨o, l, hc, ho⟩ := key i hin
        have hc' : ∀ j v, (Fn.vs o l)[j]? = some v → W.cell? ⟨ab, ao + i * 4 + j, none⟩ = some v := by
          intro j v hj
          have := hc j v hj
          rw [Addr.add_lit, ← Nat.add_assoc] at this
          exact this
        exact ⟨o, l, ⟨hc' 0 _ rfl, hc' 1 _ rfl, hc' 2 _ rfl, hc' 3 _ rfl⟩, ho⟩
      exact ⟨os, hl', hnm, fun _ => ⟨ab, ao, rfl, World.block_lt_of_cell? W ⟨ab, _, none⟩ h00, hx'⟩⟩
    · exact ⟨[], by simp; omega, hnm, fun h => absurd h hn⟩
end
set_option maxRecDepth 100000 in
/-- An argument. -/
theorem open_Fn {H : Type} {enc : TypeId × Value → H} {W : World} {v : Value} {d : DataW H} {p : List MemPlace} {r : Reach} {b0 : Nat} (hv : Value.okWide Tryz.prog W r b0 166 v) (h : DataW.Trod enc Tryz.prog W 0 (fun _ => true) true 166 v d p) :
    ∃ x l, v = Fn.ag x l ∧ FnV W W.heap.size x l := by
  obtain ⟨cs, rfl, hsz⟩ := Go.WideShapes.okWide_struct Tryz.underlying166 hv
  obtain ⟨fuel, hf⟩ := h
  obtain ⟨x, l, e, ho⟩ := open_FnN hf
  refine ⟨x, l, ?_, ho⟩
  have : cs.toList = Fn.vs x l := e
  rw [show cs = (Fn.vs x l).toArray from by rw [← this]]
  rfl
theorem open_FnS {H : Type} {enc : TypeId × Value → H} {W : World} {A : Option Addr} {n c : Nat} {d : DataW H} {p : List MemPlace} (h : DataW.Trod enc Tryz.prog W 0 (fun _ => true) true 45 (.slice A n c) d p) :
    ∃ xs, FnI W W.heap.size A n xs := by
  obtain ⟨fuel, hf⟩ := h
  exact open_FnF (by simpa [Value.cells] using hf)

/-- What szFunction takes of the bound. -/
def szFn1 (x : Fn) : Nat := x.name_.size + szSt x.params_ + szSt x.locals_ + x.label_.size

set_option maxHeartbeats 2000000 in
set_option maxRecDepth 100000 in
theorem szFunction_any (x : Fn) (l : FnLay) (L : Int) (W : World) (ho : FnV W W.heap.size x l) (hLL : 0 ≤ L) (hL : L ≤ 1048576) :
    Calls Tryz.prog 112 #[x.ag l, .int .i64 L] W (SzL (szFn1 x) L W) := by
  obtain ⟨s, hs⟩ : ∃ s, szFn1 x = s := ⟨_, rfl⟩
  rw [hs]
  unfold szFn1 at hs
  obtain ⟨x0, x1, x2, x3⟩ := x
  obtain ⟨A1, n1, c1, h1, A2, n2, c2, h2⟩ := l
  obtain ⟨k1, k2, k0, k3⟩ := ho
  try unfold FnV at k1 k2 k0 k3
  dsimp only at hs k1 k2 k0 k3
  have HS := Lib.hid hs
  have HL0 := Lib.hid hLL
  have HL1 := Lib.hid hL
  have HK1 := Lib.hid k1
  have HK2 := Lib.hid k2
  unfold maxLen at k0 k3
  have HC := Lib.hid (fun X (e : X = W.alloc (.cells #[.string x0, .slice A1 n1 c1, .slice A2 n2 c2, .string x3] 166)) => (show RW 166 X W.heap.size #[.string x0, .slice A1 n1 c1, .slice A2 n2 c2, .string x3] ∧ Below W.heap.size W X ∧ W.heap.size < X.heap.size from by rw [e]; exact ⟨RW.new _ _ _, below_alloc _ _, lt_alloc _ _⟩))
  clear hs k1 k2
  show Calls Tryz.prog 112 #[.agg #[.string x0, .slice A1 n1 c1, .slice A2 n2 c2, .string x3], .int .i64 L] W _
  by_cases cc0 : (x0.size : Int) ≤ L
  · have C0 := Lib.hid cc0
    clear cc0
    by_cases cc1 : (x0.size : Int) + (szSt x1 : Int) ≤ L
    · have C1 := Lib.hid cc1
      clear cc1
      by_cases cc2 : (x0.size : Int) + (szSt x1 : Int) + (szSt x2 : Int) ≤ L
      · have C2 := Lib.hid cc2
        clear cc2
        by_cases cc3 : (x0.size : Int) + (szSt x1 : Int) + (szSt x2 : Int) + (x3.size : Int) ≤ L
        · have C3 := Lib.hid cc3
          clear cc3
          have d0 : decide (L - (x0.size : Int) < 0) = false := (by have := C0.out; simp; omega)
          go_enter Tryz.func112, Tryz.ntmps112
          go_wp2_with (go_at_call 19; obtain ⟨g0, g1, g2⟩ := HC.out _ rfl; have HQ := szStringS_any A1 n1 c1 x1 (L - (x0.size : Int)) _ (HK1.out.go g1) (by have := C0.out; have := HL0.out; omega) (by have := C0.out; have := HL1.out; omega); refine Calls.mono HQ ?_; clear HQ; intro e w1 h; obtain ⟨z1, rfl, hz1, l1, u1, hb⟩ := h.fits (by have := C0.out; have := C1.out; omega) (by have := C0.out; have := HL1.out; omega); have Z1 := Lib.hid hz1; have d1 : decide (z1 < 0) = false := (by simp; omega); have HR1 := Lib.hid (g0.below hb g2); have HB1 := Lib.hid (g1.trans (hb.mono g1.size)); have HG1 := Lib.hid (Nat.lt_of_lt_of_le g2 hb.size); have q12 : w1.cell? ⟨W.heap.size, 2, none⟩ = some (.slice A2 n2 c2) := HR1.out.cell 2; clear hb hz1 g0 g1 g2 HK1)
          go_wp2_with (go_at_call 19; have HQ := szStringS_any A2 n2 c2 x2 (z1) _ (HK2.out.go HB1.out) (by have := C0.out; have := C1.out; have := Z1.out; have := HL0.out; omega) (by have := C0.out; have := C1.out; have := Z1.out; have := HL1.out; omega); refine Calls.mono HQ ?_; clear HQ; intro e w2 h; obtain ⟨z2, rfl, hz2, l2, u2, hb⟩ := h.fits (by have := C0.out; have := C1.out; have := C2.out; have := Z1.out; omega) (by have := C0.out; have := C1.out; have := Z1.out; have := HL1.out; omega); have Z2 := Lib.hid hz2; have d2 : decide (z2 < 0) = false := (by simp; omega); have HR2 := Lib.hid (HR1.out.below hb HG1.out); have HB2 := Lib.hid (HB1.out.trans (hb.mono HB1.out.size)); have HG2 := Lib.hid (Nat.lt_of_lt_of_le HG1.out hb.size); have q23 : w2.cell? ⟨W.heap.size, 3, none⟩ = some (.string x3) := HR2.out.cell 3; clear hb hz2  HK2; have d3 : decide (z2 - (x3.size : Int) < 0) = false := (by have := C0.out; have := C1.out; have := C2.out; have := C3.out; have := Z1.out; have := Z2.out; simp; omega))
          go_ret
          refine ⟨.inl ⟨by have := C0.out; have := C1.out; have := C2.out; have := C3.out; have := Z1.out; have := Z2.out; have := HS.out; omega, ?_⟩, HB2.out⟩
          have hx : z2 - (x3.size : Int) = L - (s : Int) := by have := C0.out; have := C1.out; have := C2.out; have := C3.out; have := Z1.out; have := Z2.out; have := HS.out; omega
          rw [← hx]
          rfl
        · have C3 := Lib.hid cc3
          clear cc3
          have d0 : decide (L - (x0.size : Int) < 0) = false := (by have := C0.out; simp; omega)
          go_enter Tryz.func112, Tryz.ntmps112
          go_wp2_with (go_at_call 19; obtain ⟨g0, g1, g2⟩ := HC.out _ rfl; have HQ := szStringS_any A1 n1 c1 x1 (L - (x0.size : Int)) _ (HK1.out.go g1) (by have := C0.out; have := HL0.out; omega) (by have := C0.out; have := HL1.out; omega); refine Calls.mono HQ ?_; clear HQ; intro e w1 h; obtain ⟨z1, rfl, hz1, l1, u1, hb⟩ := h.fits (by have := C0.out; have := C1.out; omega) (by have := C0.out; have := HL1.out; omega); have Z1 := Lib.hid hz1; have d1 : decide (z1 < 0) = false := (by simp; omega); have HR1 := Lib.hid (g0.below hb g2); have HB1 := Lib.hid (g1.trans (hb.mono g1.size)); have HG1 := Lib.hid (Nat.lt_of_lt_of_le g2 hb.size); have q12 : w1.cell? ⟨W.heap.size, 2, none⟩ = some (.slice A2 n2 c2) := HR1.out.cell 2; clear hb hz1 g0 g1 g2 HK1)
          go_wp2_with (go_at_call 19; have HQ := szStringS_any A2 n2 c2 x2 (z1) _ (HK2.out.go HB1.out) (by have := C0.out; have := C1.out; have := Z1.out; have := HL0.out; omega) (by have := C0.out; have := C1.out; have := Z1.out; have := HL1.out; omega); refine Calls.mono HQ ?_; clear HQ; intro e w2 h; obtain ⟨z2, rfl, hz2, l2, u2, hb⟩ := h.fits (by have := C0.out; have := C1.out; have := C2.out; have := Z1.out; omega) (by have := C0.out; have := C1.out; have := Z1.out; have := HL1.out; omega); have Z2 := Lib.hid hz2; have d2 : decide (z2 < 0) = false := (by simp; omega); have HR2 := Lib.hid (HR1.out.below hb HG1.out); have HB2 := Lib.hid (HB1.out.trans (hb.mono HB1.out.size)); have HG2 := Lib.hid (Nat.lt_of_lt_of_le HG1.out hb.size); have q23 : w2.cell? ⟨W.heap.size, 3, none⟩ = some (.string x3) := HR2.out.cell 3; clear hb hz2  HK2; have d3 : decide (z2 - (x3.size : Int) < 0) = true := (by have := C0.out; have := C1.out; have := C2.out; have := C3.out; have := Z1.out; have := Z2.out; simp; omega))
          go_ret
          exact ⟨.inr ⟨by have := C0.out; have := C1.out; have := C2.out; have := C3.out; have := Z1.out; have := Z2.out; have := HS.out; omega, rfl⟩, HB2.out⟩
      · have C2 := Lib.hid cc2
        clear cc2
        have d0 : decide (L - (x0.size : Int) < 0) = false := (by have := C0.out; simp; omega)
        go_enter Tryz.func112, Tryz.ntmps112
        go_wp2_with (go_at_call 19; obtain ⟨g0, g1, g2⟩ := HC.out _ rfl; have HQ := szStringS_any A1 n1 c1 x1 (L - (x0.size : Int)) _ (HK1.out.go g1) (by have := C0.out; have := HL0.out; omega) (by have := C0.out; have := HL1.out; omega); refine Calls.mono HQ ?_; clear HQ; intro e w1 h; obtain ⟨z1, rfl, hz1, l1, u1, hb⟩ := h.fits (by have := C0.out; have := C1.out; omega) (by have := C0.out; have := HL1.out; omega); have Z1 := Lib.hid hz1; have d1 : decide (z1 < 0) = false := (by simp; omega); have HR1 := Lib.hid (g0.below hb g2); have HB1 := Lib.hid (g1.trans (hb.mono g1.size)); have HG1 := Lib.hid (Nat.lt_of_lt_of_le g2 hb.size); have q12 : w1.cell? ⟨W.heap.size, 2, none⟩ = some (.slice A2 n2 c2) := HR1.out.cell 2; clear hb hz1 g0 g1 g2 HK1)
        go_wp2_with (go_at_call 19; have HQ := szStringS_any A2 n2 c2 x2 (z1) _ (HK2.out.go HB1.out) (by have := C0.out; have := C1.out; have := Z1.out; have := HL0.out; omega) (by have := C0.out; have := C1.out; have := Z1.out; have := HL1.out; omega); refine Calls.mono HQ ?_; clear HQ; intro e w2 h; obtain ⟨rfl, hb⟩ := h.long (by have := C0.out; have := C1.out; have := C2.out; have := Z1.out; omega); have HR2 := Lib.hid (HR1.out.below hb HG1.out); have HB2 := Lib.hid (HB1.out.trans (hb.mono HB1.out.size)); have HG2 := Lib.hid (Nat.lt_of_lt_of_le HG1.out hb.size); clear hb  HK2)
        go_ret
        exact ⟨.inr ⟨by have := C0.out; have := C1.out; have := C2.out; have := Z1.out; have := HS.out; omega, rfl⟩, HB2.out⟩
    · have C1 := Lib.hid cc1
      clear cc1
      have d0 : decide (L - (x0.size : Int) < 0) = false := (by have := C0.out; simp; omega)
      go_enter Tryz.func112, Tryz.ntmps112
      go_wp2_with (go_at_call 19; obtain ⟨g0, g1, g2⟩ := HC.out _ rfl; have HQ := szStringS_any A1 n1 c1 x1 (L - (x0.size : Int)) _ (HK1.out.go g1) (by have := C0.out; have := HL0.out; omega) (by have := C0.out; have := HL1.out; omega); refine Calls.mono HQ ?_; clear HQ; intro e w1 h; obtain ⟨rfl, hb⟩ := h.long (by have := C0.out; have := C1.out; omega); have HR1 := Lib.hid (g0.below hb g2); have HB1 := Lib.hid (g1.trans (hb.mono g1.size)); have HG1 := Lib.hid (Nat.lt_of_lt_of_le g2 hb.size); clear hb g0 g1 g2 HK1)
      go_ret
      exact ⟨.inr ⟨by have := C0.out; have := C1.out; have := HS.out; omega, rfl⟩, HB1.out⟩
  · have C0 := Lib.hid cc0
    clear cc0
    have d0 : decide (L - (x0.size : Int) < 0) = true := (by have := C0.out; simp; omega)
    go_enter Tryz.func112, Tryz.ntmps112
    go_wp2_with fail
    go_ret
    exact ⟨.inr ⟨by have := C0.out; have := HS.out; omega, rfl⟩, (below_alloc _ _)⟩

/-- Those of the first k. -/
def sumFn (xs : List Fn) : Nat → Nat
  | 0 => 0
  | k + 1 => sumFn xs k + ((xs[k]?.map szFn1).getD 0)
theorem sumFn_next {xs : List Fn} {k : Nat} {x : Fn} (h : xs[k]? = some x) : sumFn xs (k + 1) = sumFn xs k + szFn1 x := by
  rw [sumFn, h]
  rfl
theorem sumFn_mono {xs : List Fn} {j : Nat} : ∀ {k : Nat}, j ≤ k → sumFn xs j ≤ sumFn xs k
  | 0, h => by obtain rfl : j = 0 := by omega
               exact Nat.le_refl _
  | k + 1, h => by
    by_cases e : j = k + 1
    · rw [e]; exact Nat.le_refl _
    · have := sumFn_mono (xs := xs) (show j ≤ k by omega)
      rw [sumFn]
      omega
def szFn (xs : List Fn) : Nat := xs.length + sumFn xs xs.length

set_option maxHeartbeats 1000000 in
set_option maxRecDepth 100000 in
theorem szFunctionS_any (A : Option Addr) (n c : Nat) (xs : List Fn) (L : Int) (W : World) (hr : FnI W W.heap.size A n xs) (h0 : 0 ≤ L) (hL : L ≤ 1048576) :
    Calls Tryz.prog 72 #[.slice A n c, .int .i64 L] W (SzL (szFn xs) L W) := by
  have HR := Lib.hid hr
  have hn := hr.2.1
  have hxn := hr.1
  clear hr
  obtain ⟨s, hs⟩ : ∃ s, szFn xs = s := ⟨_, rfl⟩
  have HS : Hid (s = n + sumFn xs n) := by show _ = _; rw [← hs, szFn, hxn]
  rw [hs]
  clear hs hxn
  unfold maxLen at hn
  by_cases hbig : L < (n : Int)
  · have HB : Hid (L < (s : Int)) := by show _ < _; have := HS.out; omega
    have h2 : (n : Int) ≤ 9223372036854775807 := by omega
    have d0 : decide (L - n < 0) = true := by simp; omega
    go_enter Tryz.func72, Tryz.ntmps72
    go_wp2_with fail
    go_ret
    exact ⟨.inr ⟨HB.out, rfl⟩, Below.refl _ _⟩
  · have h1 : (n : Int) ≤ L := by omega
    have hn' : n ≤ 1048576 := by omega
    have d0 : decide (L - n < 0) = false := by simp; omega
    clear hbig
    go_enter Tryz.func72, Tryz.ntmps72
    go_wp2_with fail
    go_loopw [1, 5] (fun q i wr => ∃ k : Nat, ∃ z : Int, k ≤ n ∧ i = .int .i64 k ∧ q = .int .i64 z ∧ 0 ≤ z ∧ z ≤ 1048576 ∧ Hid (z = L - (n : Int) - (sumFn xs k : Int)) ∧ Hid (Below W.heap.size W wr)) (fun _ i _ => n - (intOf i).toNat)
    case atStart => exact ⟨0, _, Nat.zero_le _, rfl, rfl, by omega, by omega, by show _ = _; simp [sumFn], Below.refl _ _⟩
    case round =>
      obtain ⟨k, z, hk, rfl, rfl, hz0, hz1, HZ, HW⟩ := hrel
      by_cases hlt : k < n
      · obtain ⟨b, off, x, l, rfl, hg, hx, ⟨q0, q1, q2, q3⟩, hov⟩ := (HR.out.below HW.out).at_ hlt
        have HO := Lib.hid (hov.more HW.out.size)
        have HX := Lib.hid hx
        have b0 : (0 : Int) ≤ (k : Int) := by omega
        have b1 : (k : Int) < (n : Int) := by omega
        have HZ0 : Hid (0 ≤ z) := hz0
        have HZ1 : Hid (z ≤ 1048576) := hz1
        clear hx hov hg
        by_cases hf : (szFn1 x : Int) ≤ z
        · have HF := Lib.hid hf
          have HN : Hid (sumFn xs (k + 1) = sumFn xs k + szFn1 x) := sumFn_next HX.out
          clear hf
          go_wp2_with (go_at_call 112; refine (szFunction_any x l _ _ HO.out HZ0.out HZ1.out).mono ?_; intro e w1 h; obtain ⟨z1, rfl, hz2, l1, u1, hb⟩ := h.fits HF.out HZ1.out; have Z1 := Lib.hid hz2; have dz : decide (z1 < 0) = false := (by simp; omega); have HW1 : Hid (Below W.heap.size W w1) := HW.out.trans (hb.mono HW.out.size); clear hb hz2)
          go_roundw
          case rel => exact ⟨k + 1, _, by omega, by go_num, rfl, by omega, by omega, by show _ = _; rw [HN.out, Z1.out, HZ.out]; omega, HW1⟩
          case measure => simp [intOf]; omega
        · have HF := Lib.hid hf
          have HBIG : Hid (L < (s : Int)) := by
            show _ < _
            have h1 := sumFn_mono (xs := xs) (j := k + 1) (k := n) (by omega)
            rw [sumFn_next HX.out] at h1
            have h2 := HZ.out
            have h3 := HS.out
            omega
          clear hf
          go_wp2_with (go_at_call 112; refine (szFunction_any x l _ _ HO.out HZ0.out HZ1.out).mono ?_; intro e w1 h; obtain ⟨rfl, hb⟩ := h.long HF.out; have HW1 : Hid (Below W.heap.size W w1) := HW.out.trans (hb.mono HW.out.size); clear hb)
          go_ret
          exact ⟨.inr ⟨HBIG.out, rfl⟩, HW1.out⟩
      · have hkn : k = n := by omega
        have HE : Hid ((s : Int) ≤ L ∧ z = L - (s : Int)) := by
          have h := HZ.out
          have h3 := HS.out
          rw [hkn] at h
          exact ⟨by omega, by omega⟩
        go_wp2_with fail
        go_ret
        exact ⟨.inl ⟨HE.out.1, by rw [HE.out.2]; rfl⟩, HW.out⟩
/-- No list is too long. -/
def FnSmall (x : Fn) : Prop := x.params_.length ≤ 1048576 ∧ x.locals_.length ≤ 1048576
theorem small_Fn1 {x : Fn} (h : (szFn1 x : Int) ≤ 1048576) : FnSmall x := by
  unfold szFn1 at h
  unfold FnSmall
  exact ⟨(by unfold szSt at h; omega), (by unfold szSt at h; omega)⟩
theorem small_Fn {xs : List Fn} (h : (szFn xs : Int) ≤ 1048576) : (∀ (j : Nat) (x : Fn), xs[j]? = some x → FnSmall x) ∧ xs.length ≤ 1048576 := by
  unfold szFn at h
  refine ⟨fun j x hx => small_Fn1 ?_, by omega⟩
  have hl := (List.getElem?_eq_some_iff.1 hx).1
  have h1 := sumFn_mono (xs := xs) (j := j + 1) (k := xs.length) (by omega)
  rw [sumFn_next hx] at h1
  omega
end Go.Proofs.YtfcpdjfckeoniaaGreatDoor

namespace Go.Proofs.YtfcpdjfckeoniaaGreatDoor
open Go Go.RowKit

/-- What toFunction answers. -/
def ToFn (x : Fn) (W : World) (e : Ending) (w' : World) : Prop := ∃ l, e = .returned (x.ag l) ∧ Hid (FnV w' w'.heap.size x l ∧ Below W.heap.size W w' ∧ l.n1 = x.params_.length ∧ l.n2 = x.locals_.length ∧ ∃ b1 b2, l.A1 = some ⟨b1, 0, none⟩ ∧ l.A2 = some ⟨b2, 0, none⟩ ∧ W.heap.size ≤ b1 ∧ W.heap.size ≤ b2)

set_option maxHeartbeats 2000000 in
set_option maxRecDepth 100000 in
theorem toFunction_any (x : Fn) (l : FnLay) (W : World) (ho : FnV W W.heap.size x l) (hsm : FnSmall x) :
    Calls Tryz.prog 120 #[x.ag l] W (ToFn x W) := by
  obtain ⟨x0, x1, x2, x3⟩ := x
  obtain ⟨A1, n1, c1, h1, A2, n2, c2, h2⟩ := l
  obtain ⟨k1, k2, k0, k3⟩ := ho
  obtain ⟨s1, s2⟩ := hsm
  try unfold FnV at k1 k2 k0 k3
  try unfold FnSmall at s1 s2
  dsimp only at k1 k2 k0 k3 s1 s2
  rw [k1.1] at s1
  have HK1 := Lib.hid k1
  have HS1 := Lib.hid s1
  rw [k2.1] at s2
  have HK2 := Lib.hid k2
  have HS2 := Lib.hid s2
  have HT0 := Lib.hid k0
  have HT3 := Lib.hid k3
  clear k1 k2 k0 k3 s1 s2
  have HC := Lib.hid (fun (X Y : World) (T T' : TypeId) (c c' : Array Value) (eY : Y = W.alloc (.cells #[.string x0, .slice A1 n1 c1, .slice A2 n2 c2, .string x3] T)) (eX : X = (Y.alloc (.cells c T')).alloc (.cells c' T')) =>
    (show RW T X W.heap.size #[.string x0, .slice A1 n1 c1, .slice A2 n2 c2, .string x3] ∧ RW T' X (W.heap.size + 1 + 1) c' ∧ RW T' X (W.heap.size + 1) c ∧ Below W.heap.size W X ∧ X.heap.size = W.heap.size + 3 from by
      subst eX; subst eY
      refine ⟨((RW.new W _ T).alloc _).alloc _, ?_, ?_, ((below_alloc _ _).alloc (by simp) _).alloc (by simp; omega) _, by simp⟩
      · have := RW.new ((W.alloc (.cells #[.string x0, .slice A1 n1 c1, .slice A2 n2 c2, .string x3] T)).alloc (.cells c T')) c' T'
        simpa using this
      · have := (RW.new (W.alloc (.cells #[.string x0, .slice A1 n1 c1, .slice A2 n2 c2, .string x3] T)) c T').alloc (.cells c' T')
        simpa using this))
  show Calls Tryz.prog 120 #[.agg #[.string x0, .slice A1 n1 c1, .slice A2 n2 c2, .string x3]] W _
  go_enter Tryz.func120, Tryz.ntmps120
  go_wp2_with (go_at_call 24; obtain ⟨g0, g1, g4, g2, g3⟩ := HC.out _ _ _ _ _ _ rfl rfl; have HQ := toStringS_any A1 n1 c1 x1 _ (HK1.out.go g2) HS1.out; refine Calls.mono HQ ?_; clear HQ; rintro e w1 ⟨rfl, h⟩; obtain ⟨hv, hb⟩ := h.out; have hd := hv.det; rw [g3] at hv hd; have HA1 := Lib.hid (g0.below hb (by omega)); have HR1 := Lib.hid (g1.below hb (by omega)); have HO1 := Lib.hid (g4.below hb (by omega)); have HB1 := Lib.hid (g2.trans (hb.mono g2.size)); have HV1_1 : Hid (Det (W.heap.size + 1 + 1 + 1) w1.heap.size w1 fun w => StI w w1.heap.size (some ⟨W.heap.size + 1 + 1 + 1, 0, none⟩) n1 x1) := hd; have HG1 : Hid (W.heap.size + 3 ≤ w1.heap.size) := (by have := hb.size; show _ ≤ _; omega); clear g0 g1 g2 g3 g4 h hv hd hb HK1; have q12 : w1.cell? ⟨W.heap.size, 2, none⟩ = some (.slice A2 n2 c2) := HA1.out.cell 2; have p11 : w1.cell? ⟨W.heap.size + 1 + 1, 1, none⟩ = some (.slice none 0 0) := HR1.out.cell 1; have f11 := HR1.out.frozen 1)
  go_wp2_with (go_at_call 24; have hbs : Below (W.heap.size + 2) w1 (w1.setCell ⟨W.heap.size + 1 + 1, 1, none⟩ (.slice (some ⟨W.heap.size + 1 + 1 + 1, 0, none⟩) n1 n1)) := below_set w1 (p := ⟨W.heap.size + 1 + 1, 1, none⟩) (B := W.heap.size + 2) (Nat.le_refl _) (.slice (some ⟨W.heap.size + 1 + 1 + 1, 0, none⟩) n1 n1); have hzz : (w1.setCell ⟨W.heap.size + 1 + 1, 1, none⟩ (.slice (some ⟨W.heap.size + 1 + 1 + 1, 0, none⟩) n1 n1)).heap.size = w1.heap.size := (by simp [World.setCell]); have HQ := toStringS_any A2 n2 c2 x2 (w1.setCell ⟨W.heap.size + 1 + 1, 1, none⟩ (.slice (some ⟨W.heap.size + 1 + 1 + 1, 0, none⟩) n1 n1)) (HK2.out.go (HB1.out.trans (hbs.mono (by omega)))) HS2.out; refine Calls.mono HQ ?_; clear HQ; rintro e w2 ⟨rfl, h⟩; obtain ⟨hv, hb⟩ := h.out; have hd := hv.det; rw [hzz] at hb hv hd; have hsz := hb.size; rw [hzz] at hsz; have hs1 := HG1.out; have HA2 := Lib.hid ((HA1.out.below hbs (by omega)).below hb (by omega)); have HR2 := Lib.hid (((HR1.out).set_ 1 (.slice (some ⟨W.heap.size + 1 + 1 + 1, 0, none⟩) n1 n1)).below hb (by omega)); have HO2 := Lib.hid ((HO1.out.below hbs (by omega)).below hb (by omega)); have HB2 := Lib.hid ((HB1.out.trans (hbs.mono (by omega))).trans (hb.mono (by omega))); have HG2 : Hid (W.heap.size + 3 ≤ w2.heap.size) := (Nat.le_trans hs1 hsz); have HV2_2 : Hid (Det (w1.heap.size) w2.heap.size w2 fun w => StI w w2.heap.size (some ⟨w1.heap.size, 0, none⟩) n2 x2) := hd; have HZ2 : Hid (w1.heap.size ≠ W.heap.size + 1 + 1) := (by show _ ≠ _; omega); have HV2_1 := Lib.hid (((((HV1_1.out).set (p := ⟨W.heap.size + 1 + 1, 1, none⟩) (by have := HG1.out; dsimp only; omega) (.slice (some ⟨W.heap.size + 1 + 1 + 1, 0, none⟩) n1 n1)).below hb (by omega)).wide (Nat.le_refl _) hsz).imp fun w h => h.more hsz); clear hbs hzz hb hv hd h hsz hs1 HK2; have q23 : w2.cell? ⟨W.heap.size, 3, none⟩ = some (.string x3) := HA2.out.cell 3; have p22 : w2.cell? ⟨W.heap.size + 1 + 1, 2, none⟩ = some (.slice none 0 0) := HR2.out.cell 2; have f22 := HR2.out.frozen 2; have p23 : w2.cell? ⟨W.heap.size + 1 + 1, 3, none⟩ = some (.string ⟨#[]⟩) := HR2.out.cell 3; have f23 := HR2.out.frozen 3; have p20 : w2.cell? ⟨W.heap.size + 1 + 1, 0, none⟩ = some (.string x0) := HR2.out.cell 0; have p21 : w2.cell? ⟨W.heap.size + 1 + 1, 1, none⟩ = some (.slice (some ⟨W.heap.size + 1 + 1 + 1, 0, none⟩) n1 n1) := HR2.out.cell 1; have r0 : w2.cell? ⟨W.heap.size + 1, 0, none⟩ = some (.string ⟨#[]⟩) := HO2.out.cell 0; have z0 := HO2.out.frozen 0; have r1 : w2.cell? ⟨W.heap.size + 1, 1, none⟩ = some (.slice none 0 0) := HO2.out.cell 1; have z1 := HO2.out.frozen 1; have r2 : w2.cell? ⟨W.heap.size + 1, 2, none⟩ = some (.slice none 0 0) := HO2.out.cell 2; have z2 := HO2.out.frozen 2; have r3 : w2.cell? ⟨W.heap.size + 1, 3, none⟩ = some (.string ⟨#[]⟩) := HO2.out.cell 3; have z3 := HO2.out.frozen 3)
  have hs1 := HG2.out
  have hb1 : Below (W.heap.size + 1) w2 ((((((w2.setCell ⟨W.heap.size + 1 + 1, 2, none⟩ (.slice (some ⟨w1.heap.size, 0, none⟩) n2 n2)).setCell ⟨W.heap.size + 1 + 1, 3, none⟩ (.string x3)).setCell ⟨W.heap.size + 1, 0, none⟩ (.string x0)).setCell ⟨W.heap.size + 1, 1, none⟩ (.slice (some ⟨W.heap.size + 1 + 1 + 1, 0, none⟩) n1 n1)).setCell ⟨W.heap.size + 1, 2, none⟩ (.slice (some ⟨w1.heap.size, 0, none⟩) n2 n2)).setCell ⟨W.heap.size + 1, 3, none⟩ (.string x3)) := ((((((below_set w2 (p := ⟨W.heap.size + 1 + 1, 2, none⟩) (by simp) _).setCell (by simp) _).setCell (by simp) _).setCell (by simp) _).setCell (by simp) _).setCell (by simp) _)
  have hzz : ((((((w2.setCell ⟨W.heap.size + 1 + 1, 2, none⟩ (.slice (some ⟨w1.heap.size, 0, none⟩) n2 n2)).setCell ⟨W.heap.size + 1 + 1, 3, none⟩ (.string x3)).setCell ⟨W.heap.size + 1, 0, none⟩ (.string x0)).setCell ⟨W.heap.size + 1, 1, none⟩ (.slice (some ⟨W.heap.size + 1 + 1 + 1, 0, none⟩) n1 n1)).setCell ⟨W.heap.size + 1, 2, none⟩ (.slice (some ⟨w1.heap.size, 0, none⟩) n2 n2)).setCell ⟨W.heap.size + 1, 3, none⟩ (.string x3)).heap.size = w2.heap.size := by simp [World.setCell]
  refine bodyPost_ret (v := .agg #[.string x0, .slice (some ⟨W.heap.size + 1 + 1 + 1, 0, none⟩) n1 n1, .slice (some ⟨w1.heap.size, 0, none⟩) n2 n2, .string x3]) (results_cell_row Tryz.results120 _ _ (W.heap.size + 1) 118 _ (0, 0) _ rfl ((((((((((((HO2.out).other (p := ⟨W.heap.size + 1 + 1, 2, none⟩) (by simp) (.slice (some ⟨w1.heap.size, 0, none⟩) n2 n2))).other (p := ⟨W.heap.size + 1 + 1, 3, none⟩) (by simp) (.string x3))).set_ 0 (.string x0))).set_ 1 (.slice (some ⟨W.heap.size + 1 + 1 + 1, 0, none⟩) n1 n1))).set_ 2 (.slice (some ⟨w1.heap.size, 0, none⟩) n2 n2))).set_ 3 (.string x3)) Tryz.underlying118 rfl (by kernel_rfl)) rfl ⟨⟨some ⟨W.heap.size + 1 + 1 + 1, 0, none⟩, n1, n1, Nat.le_refl _, some ⟨w1.heap.size, 0, none⟩, n2, n2, Nat.le_refl _⟩, rfl, Lib.hid ⟨?_, HB2.out.trans (hb1.mono (by omega)), HV2_1.out.self.1.symm, HV2_2.out.self.1.symm, _, _, rfl, rfl, by omega, by have := HG1.out; have := HG2.out; omega⟩⟩
  show FnV ((((((w2.setCell ⟨W.heap.size + 1 + 1, 2, none⟩ (.slice (some ⟨w1.heap.size, 0, none⟩) n2 n2)).setCell ⟨W.heap.size + 1 + 1, 3, none⟩ (.string x3)).setCell ⟨W.heap.size + 1, 0, none⟩ (.string x0)).setCell ⟨W.heap.size + 1, 1, none⟩ (.slice (some ⟨W.heap.size + 1 + 1 + 1, 0, none⟩) n1 n1)).setCell ⟨W.heap.size + 1, 2, none⟩ (.slice (some ⟨w1.heap.size, 0, none⟩) n2 n2)).setCell ⟨W.heap.size + 1, 3, none⟩ (.string x3)) ((((((w2.setCell ⟨W.heap.size + 1 + 1, 2, none⟩ (.slice (some ⟨w1.heap.size, 0, none⟩) n2 n2)).setCell ⟨W.heap.size + 1 + 1, 3, none⟩ (.string x3)).setCell ⟨W.heap.size + 1, 0, none⟩ (.string x0)).setCell ⟨W.heap.size + 1, 1, none⟩ (.slice (some ⟨W.heap.size + 1 + 1 + 1, 0, none⟩) n1 n1)).setCell ⟨W.heap.size + 1, 2, none⟩ (.slice (some ⟨w1.heap.size, 0, none⟩) n2 n2)).setCell ⟨W.heap.size + 1, 3, none⟩ (.string x3)).heap.size ⟨x0, x1, x2, x3⟩ ⟨some ⟨W.heap.size + 1 + 1 + 1, 0, none⟩, n1, n1, Nat.le_refl _, some ⟨w1.heap.size, 0, none⟩, n2, n2, Nat.le_refl _⟩
  rw [hzz]
  exact ⟨((((((((((((HV2_1.out).set (p := ⟨W.heap.size + 1 + 1, 2, none⟩) (by first | (dsimp only; omega) | omega) _)).set (p := ⟨W.heap.size + 1 + 1, 3, none⟩) (by first | (dsimp only; omega) | omega) _)).set (p := ⟨W.heap.size + 1, 0, none⟩) (by first | (dsimp only; omega) | omega) _)).set (p := ⟨W.heap.size + 1, 1, none⟩) (by first | (dsimp only; omega) | omega) _)).set (p := ⟨W.heap.size + 1, 2, none⟩) (by first | (dsimp only; omega) | omega) _)).set (p := ⟨W.heap.size + 1, 3, none⟩) (by first | (dsimp only; omega) | omega) _).self, ((((((((((((HV2_2.out).set (p := ⟨W.heap.size + 1 + 1, 2, none⟩) (by have := HG1.out; first | (dsimp only; omega) | omega) _)).set (p := ⟨W.heap.size + 1 + 1, 3, none⟩) (by have := HG1.out; first | (dsimp only; omega) | omega) _)).set (p := ⟨W.heap.size + 1, 0, none⟩) (by have := HG1.out; first | (dsimp only; omega) | omega) _)).set (p := ⟨W.heap.size + 1, 1, none⟩) (by have := HG1.out; first | (dsimp only; omega) | omega) _)).set (p := ⟨W.heap.size + 1, 2, none⟩) (by have := HG1.out; first | (dsimp only; omega) | omega) _)).set (p := ⟨W.heap.size + 1, 3, none⟩) (by have := HG1.out; first | (dsimp only; omega) | omega) _).self, HT0.out, HT3.out⟩

/-- The elements of block g ahead of j are filled; their lists lie elsewhere. -/
def FilledFn (w : World) (g j n : Nat) (xs : List Fn) : Prop :=
  ∃ cs, RW 118 w g cs ∧ n * 4 ≤ cs.size ∧ ∀ (i : Nat) (x : Fn), i < j → xs[i]? = some x → ∃ l b1 b2, l.A1 = some ⟨b1, 0, none⟩ ∧ l.A2 = some ⟨b2, 0, none⟩ ∧ g < b1 ∧ g < b2 ∧ FnV w w.heap.size x l ∧ ∀ (q : Nat) (v : Value), (x.vs l)[q]? = some v → cs[i * 4 + q]? = some v
theorem FilledFn.below {w w' : World} {g j n : Nat} {xs : List Fn} (h : FilledFn w g j n xs) (hb : Below w.heap.size w w') : FilledFn w' g j n xs := by
  obtain ⟨cs, hr, hn, hm⟩ := h
  refine ⟨cs, hr.below hb hr.lt, hn, fun i x hi hx => ?_⟩
  obtain ⟨l, b1, b2, h1, h2, u1, u2, h5, h6⟩ := hm i x hi hx
  exact ⟨l, b1, b2, h1, h2, u1, u2, (h5.below hb).more hb.size, h6⟩
theorem FnV.others {w : World} {B g o : Nat} {x : Fn} {l : FnLay} {b1 b2 : Nat} (h : FnV w B x l) (h1 : l.A1 = some ⟨b1, 0, none⟩) (h2 : l.A2 = some ⟨b2, 0, none⟩) (u1 : b1 ≠ g) (u2 : b2 ≠ g) (vs : List Value) : FnV (w.setCells g o vs) B x l := by
  obtain ⟨a0, a1, a2, a3⟩ := h
  try unfold FnV at a0 a1 a2 a3 ⊢
  rw [h1] at a0
  rw [h2] at a1
  refine ⟨?_, ?_, a2, a3⟩
  · rw [h1]; exact a0.others u1
  · rw [h2]; exact a1.others u2
theorem size_setsFn (vs : List Value) (w : World) (g k : Nat) : (w.setCells g k vs).heap.size = w.heap.size := by
  induction vs generalizing w k with
  | nil => rfl
  | cons v r ih => exact (ih _ _).trans (size_set _ _ _)
theorem FilledFn.store {w : World} {g j n : Nat} {xs : List Fn} {x : Fn} {l : FnLay} {b1 b2 : Nat} (h : FilledFn w g j n xs) (hx : xs[j]? = some x) (hj : j < n) (h1 : l.A1 = some ⟨b1, 0, none⟩) (h2 : l.A2 = some ⟨b2, 0, none⟩) (u1 : g < b1) (u2 : g < b2) (h5 : FnV w w.heap.size x l) :
    FilledFn (w.setCells g (j * 4) (x.vs l)) g (j + 1) n xs := by
  obtain ⟨cs, hr, hn, hm⟩ := h
  have hs : (w.setCells g (j * 4) (x.vs l)).heap.size = w.heap.size := size_setsFn _ _ _ _
  have hlK : (x.vs l).length = 4 := rfl
  refine ⟨_, hr.cells, by rw [putL_size]; exact hn, fun i y hi hy => ?_⟩
  by_cases e : i = j
  · subst e
    rw [hx, Option.some.injEq] at hy
    subst hy
    refine ⟨l, b1, b2, h1, h2, u1, u2, ?_, fun q v hq => putL_new _ _ _ _ _ (by rw [hlK]; omega) hq⟩
    rw [hs]
    exact h5.others h1 h2 (by omega) (by omega) _
  · obtain ⟨l', b1', b2', j1, j2, v1, v2, k5, k6⟩ := hm i y (by omega) hy
    refine ⟨l', b1', b2', j1, j2, v1, v2, ?_, fun q v hq => ?_⟩
    · rw [hs]
      exact k5.others j1 j2 (by omega) (by omega) _
    · have hqK : q < 4 := (List.getElem?_eq_some_iff.1 hq).1
      rw [putL_old _ _ _ _ (by omega)]
      exact k6 q v hq
theorem FilledFn.all {w : World} {g n : Nat} {xs : List Fn} (h : FilledFn w g n n xs) (hl : xs.length = n) (hn : n ≤ maxLen) : FnI w w.heap.size (some ⟨g, 0, none⟩) n xs := by
  obtain ⟨cs, hr, hc, hm⟩ := h
  refine ⟨hl, hn, fun _ => ⟨g, 0, rfl, hr.lt, fun j x hx => ?_⟩⟩
  obtain ⟨l, _, _, _, _, _, _, h5, h6⟩ := hm j x (by rw [← hl]; exact (List.getElem?_eq_some_iff.1 hx).1) hx
  rw [Nat.zero_add]
  have k : ∀ q v, (x.vs l)[q]? = some v → w.cell? ⟨g, j * 4 + q, none⟩ = some v := fun q v hq => (hr.cell _).trans (h6 q v hq)
  exact ⟨l, ⟨k 0 _ rfl, k 1 _ rfl, k 2 _ rfl, k 3 _ rfl⟩, h5⟩
theorem FilledFn.det {w : World} {g n : Nat} {xs : List Fn} (h : FilledFn w g n n xs) (hl : xs.length = n) (hn : n ≤ maxLen) : Det g w.heap.size w fun w' => FnI w' w.heap.size (some ⟨g, 0, none⟩) n xs := by
  intro w' hk
  obtain ⟨cs, hr, hc, hm⟩ := h
  have hr' : RW 118 w' g cs := (hk g (Nat.le_refl _) hr.lt).trans hr
  refine ⟨hl, hn, fun _ => ⟨g, 0, rfl, hr.lt, fun j x hx => ?_⟩⟩
  obtain ⟨l, b1, b2, h1, h2, u1, u2, h5, h6⟩ := hm j x (by rw [← hl]; exact (List.getElem?_eq_some_iff.1 hx).1) hx
  rw [Nat.zero_add]
  have k : ∀ q v, (x.vs l)[q]? = some v → w'.cell? ⟨g, j * 4 + q, none⟩ = some v := fun q v hq => (hr'.cell _).trans (h6 q v hq)
  refine ⟨l, ⟨k 0 _ rfl, k 1 _ rfl, k 2 _ rfl, k 3 _ rfl⟩, ?_⟩
  obtain ⟨a0, a1, a2, a3⟩ := h5
  try unfold FnV at a0 a1 a2 a3 ⊢
  refine ⟨?_, ?_, a2, a3⟩
  · rw [h1] at a0 ⊢; exact a0.det w' fun g' h1 h2 => hk g' (by omega) h2
  · rw [h2] at a1 ⊢; exact a1.det w' fun g' h1 h2 => hk g' (by omega) h2
theorem infoFn : (Tryz.prog.info? 118).map (fun i => (i.zero, i.size, i.bytes)) = some (some (Value.agg #[.string ⟨#[]⟩, .slice none 0 0, .slice none 0 0, .string ⟨#[]⟩]), 4, 80) := by kernel_rfl
theorem ownFn {w : World} {B g n : Nat} {xs : List Value} (h : w.ownsRow B 118 4 (.slice (some ⟨g, 0, none⟩) n n) n xs) : ∃ cs, RW 118 w g cs ∧ n * 4 ≤ cs.size := by
  rcases h.2 with ⟨h', _⟩ | ⟨g', cap', cur, h', _, hg, _, _, hsz, _⟩
  · simp at h'
  · simp only [Value.slice.injEq, Option.some.injEq, Addr.mk.injEq, and_true, true_and] at h'
    obtain ⟨rfl, rfl⟩ := h'
    exact ⟨cur, hg, by omega⟩
/-- What toFunctionS answers. -/
def ToFnS (xs : List Fn) (n : Nat) (W : World) (e : Ending) (w' : World) : Prop :=
  e = .returned (.slice (some ⟨W.heap.size, 0, none⟩) n n) ∧ Hid (FnI w' w'.heap.size (some ⟨W.heap.size, 0, none⟩) n xs ∧ Below W.heap.size W w' ∧ Det W.heap.size w'.heap.size w' fun w => FnI w w'.heap.size (some ⟨W.heap.size, 0, none⟩) n xs)

set_option maxHeartbeats 2000000 in
set_option maxRecDepth 100000 in
theorem toFunctionS_any (A : Option Addr) (n c : Nat) (xs : List Fn) (W : World) (hr : FnI W W.heap.size A n xs) (hs : ∀ (j : Nat) (x : Fn), xs[j]? = some x → FnSmall x) (hn : n ≤ 1048576) :
    Calls Tryz.prog 81 #[.slice A n c] W (ToFnS xs n W) := by
  obtain ⟨i0, hi, hz0, hz1, hz2⟩ := info_parts infoFn
  have HR := Lib.hid hr
  have HS := Lib.hid hs
  have h1 : (n : Int) ≤ 1048576 := by omega
  clear hr hs
  go_enter Tryz.func81, Tryz.ntmps81
  go_wp2_with (at_make; refine wpList_make_full _ rfl _ _ 57 rfl W.heap.size 118 i0 (.agg #[.string ⟨#[]⟩, .slice none 0 0, .slice none 0 0, .string ⟨#[]⟩]) 4 Tryz.underlying57 hi hz0 hz1 .i64 .i64 n n n rfl rfl rfl rfl (by rw [hz2]; omega) (by unfold maxLen; omega) (Nat.le_refl _) ?_)
  intro w1 hown hgrow
  have HB1 : Hid (Below W.heap.size W w1) := below_grown_none hgrow
  obtain ⟨cs, hcs, hcn⟩ := ownFn hown
  have HG : Hid (W.heap.size < w1.heap.size) := hcs.lt
  have HM : Hid (FilledFn w1 W.heap.size 0 n xs) := ⟨cs, hcs, hcn, fun i x hi => absurd hi (by omega)⟩
  clear hown hgrow hcs hcn hi hz0 hz1 hz2
  go_wp2_with fail
  go_loopw [4] (fun i wr => ∃ j : Nat, j ≤ n ∧ i = .int .i64 j ∧ Hid (Below W.heap.size W wr) ∧ Hid (W.heap.size < wr.heap.size) ∧ Hid (FilledFn wr W.heap.size j n xs)) (fun i _ => n - (intOf i).toNat)
  case atStart => exact ⟨0, Nat.zero_le _, rfl, HB1, HG, HM⟩
  case round =>
    obtain ⟨j, hj, rfl, HW, HZ, HJ⟩ := hrel
    by_cases hlt : j < n
    · obtain ⟨b, off, x, l, rfl, hg, hx, ⟨q0, q1, q2, q3⟩, hov⟩ := (HR.out.below HW.out).at_ hlt
      have HX := Lib.hid hx
      have HO := Lib.hid (hov.more HW.out.size)
      have HLT := Lib.hid hlt
      have HS1 := Lib.hid (HS.out j x hx)
      clear hx hov hg
      have b0 : (0 : Int) ≤ (j : Int) := by omega
      have b1 : (j : Int) < (n : Int) := by omega
      go_wp2_with (first | (go_at_call 120; have HQ := toFunction_any x l _ HO.out HS1.out; refine Calls.mono HQ ?_; clear HQ; rintro e w2 ⟨⟨A1, n1, c1, h1, A2, n2, c2, h2⟩, rfl, h⟩; obtain ⟨g1, hb, en1, en2, b1, b2, e1, e2, g1g, g2g⟩ := h.out; clear en1 en2; have HF := Lib.hid (HJ.out.below hb); have hlt2 := HLT.out; have hzz := HZ.out; have HF2 : Hid (FilledFn (w2.setCells W.heap.size (j * 4) [.string x.name_, .slice A1 n1 c1, .slice A2 n2 c2, .string x.label_]) W.heap.size (j + 1) n xs) := (by have k := HF.out.store HX.out hlt2 e1 e2 (Nat.lt_of_lt_of_le hzz g1g) (Nat.lt_of_lt_of_le hzz g2g) g1; unfold Fn.vs at k; exact k); have HT : Hid (w2.there W.heap.size (j * 4) 4) := (by obtain ⟨cs, hr, hc, _⟩ := HF.out; exact hr.there (by omega)); have HW2 : Hid (Below W.heap.size W (w2.setCells W.heap.size (j * 4) [.string x.name_, .slice A1 n1 c1, .slice A2 n2 c2, .string x.label_])) := ((HW.out.trans (hb.mono HW.out.size)).trans (below_cells (Nat.le_refl _) _ _ _)); have HZ2 : Hid (W.heap.size < (w2.setCells W.heap.size (j * 4) [.string x.name_, .slice A1 n1 c1, .slice A2 n2 c2, .string x.label_]).heap.size) := (by obtain ⟨_, hr, _⟩ := HF2.out; exact hr.lt); have tk1 : True := trivial; clear h g1 hb e1 g1g e2 g2g hlt2 hzz q0 q1 q2 q3) | (clear tk1; refine wpList_store_mid rfl 118 (.tmp 21) (.tmp 20) rfl W.heap.size (j * 4) _ rfl rfl HT.out (by kernel_rfl) (by kernel_rfl) ?_; go_frame; clear HT; generalize w2.setCells W.heap.size (j * 4) [.string x.name_, .slice A1 n1 c1, .slice A2 n2 c2, .string x.label_] = w3 at HF2 HW2 HZ2 ⊢))
      go_roundw
      case rel => exact ⟨j + 1, by omega, by go_num, HW2, HZ2, HF2⟩
      case measure => simp [intOf]; omega
    · have HN : Hid (j = n) := by show _ = _; omega
      go_wp2_with fail
      go_ret
      have h := HJ.out
      rw [HN.out] at h
      exact ⟨rfl, Lib.hid ⟨h.all HR.out.1 HR.out.2.1, HW.out, h.det HR.out.1 HR.out.2.1⟩⟩
end Go.Proofs.YtfcpdjfckeoniaaGreatDoor

namespace Go.Proofs.YtfcpdjfckeoniaaGreatDoor
open Go Go.RowKit

set_option maxHeartbeats 1000000 in
set_option maxRecDepth 100000 in
theorem eqFunction_same (x : Fn) (l l' : FnLay) (W : World) (ho : FnV W W.heap.size x l) (ho' : FnV W W.heap.size x l') :
    Calls Tryz.prog 128 #[x.ag l, x.ag l'] W fun e w' => e = .returned (.bool true) ∧ Below W.heap.size W w' := by
  obtain ⟨x0, x1, x2, x3⟩ := x
  obtain ⟨A1, n1, c1, h1, A2, n2, c2, h2⟩ := l
  obtain ⟨A1', n1', c1', h1', A2', n2', c2', h2'⟩ := l'
  obtain ⟨k1, k2, k0, k3⟩ := ho
  obtain ⟨j1, j2, j0, j3⟩ := ho'
  try unfold FnV at k1 j1 k2 j2 k0 j0 k3 j3
  dsimp only at k1 j1 k2 j2 k0 j0 k3 j3
  obtain rfl : n1 = n1' := k1.1.symm.trans j1.1
  have HK1 := Lib.hid k1
  have HJ1 := Lib.hid j1
  obtain rfl : n2 = n2' := k2.1.symm.trans j2.1
  have HK2 := Lib.hid k2
  have HJ2 := Lib.hid j2
  clear k1 j1 k2 j2 k0 j0 k3 j3
  have HC := Lib.hid (two_new W 118 #[.string x0, .slice A1 n1 c1, .slice A2 n2 c2, .string x3] #[.string x0, .slice A1' n1 c1', .slice A2' n2 c2', .string x3])
  show Calls Tryz.prog 128 #[.agg #[.string x0, .slice A1 n1 c1, .slice A2 n2 c2, .string x3], .agg #[.string x0, .slice A1' n1 c1', .slice A2' n2 c2', .string x3]] W _
  go_enter Tryz.func128, Tryz.ntmps128
  go_wp2_with (go_at_call 29; obtain ⟨g0, g1, g2, g3⟩ := HC.out _ rfl; have HQ := eqStringS_same A1 A1' n1 c1 c1' x1 _ (HK1.out.go g2) (HJ1.out.go g2); refine Calls.mono HQ ?_; clear HQ; rintro e w1 ⟨rfl, hb⟩; have HA1 := Lib.hid (g0.below hb (by omega)); have HD1 := Lib.hid (g1.below hb (by omega)); have HB1 := Lib.hid (g2.trans (hb.mono g2.size)); have HG1 : Hid (W.heap.size + 2 ≤ w1.heap.size) := (by have := hb.size; show _ ≤ _; omega); have q12 : w1.cell? ⟨W.heap.size, 2, none⟩ = some (.slice A2 n2 c2) := HA1.out.cell 2; have p12 : w1.cell? ⟨W.heap.size + 1, 2, none⟩ = some (.slice A2' n2 c2') := HD1.out.cell 2; clear g0 g1 g2 g3 hb HK1)
  go_wp2_with (go_at_call 29; have HQ := eqStringS_same A2 A2' n2 c2 c2' x2 _ (HK2.out.go HB1.out) (HJ2.out.go HB1.out); refine Calls.mono HQ ?_; clear HQ; rintro e w2 ⟨rfl, hb⟩; have hg := HG1.out; have HA2 := Lib.hid (HA1.out.below hb (by omega)); have HD2 := Lib.hid (HD1.out.below hb (by omega)); have HB2 := Lib.hid (HB1.out.trans (hb.mono HB1.out.size)); have HG2 : Hid (W.heap.size + 2 ≤ w2.heap.size) := (Nat.le_trans hg hb.size); have q23 : w2.cell? ⟨W.heap.size, 3, none⟩ = some (.string x3) := HA2.out.cell 3; have p23 : w2.cell? ⟨W.heap.size + 1, 3, none⟩ = some (.string x3) := HD2.out.cell 3; clear hg hb HK2)
  all_goals go_ret
  all_goals exact ⟨rfl, HB2.out⟩

/-- Two in two blocks, and their lists. -/
def TwoFn (wr : World) (b b' p p' : Nat) (x y : Fn) (l l' : FnLay) (w : World) : Prop := FnAt w b p x l ∧ FnAt w b' p' y l' ∧ FnV w w.heap.size x l ∧ FnV w w.heap.size y l' ∧ Below wr.heap.size wr w ∧ b < w.heap.size ∧ b' < w.heap.size
theorem TwoFn.grow {wr w w' : World} {b b' p p' : Nat} {x y : Fn} {l l' : FnLay} (h : TwoFn wr b b' p p' x y l l' w) (hb : Below w.heap.size w w') : TwoFn wr b b' p p' x y l l' w' :=
  ⟨h.1.below hb h.2.2.2.2.2.1, h.2.1.below hb h.2.2.2.2.2.2, (h.2.2.1.below hb).more hb.size, (h.2.2.2.1.below hb).more hb.size, h.2.2.2.2.1.trans (hb.mono h.2.2.2.2.1.size), Nat.lt_of_lt_of_le h.2.2.2.2.2.1 hb.size, Nat.lt_of_lt_of_le h.2.2.2.2.2.2 hb.size⟩
/-- .. cell by cell, as the walk of a region asks it. -/
abbrev FlatFn (wr : World) (b b' p p' : Nat) (x y : Fn) (l l' : FnLay) (w : World) : Prop := (w.cell? ⟨b, p, none⟩ = some (.string x.name_) ∧ w.cell? ⟨b, p + 1, none⟩ = some (.slice l.A1 l.n1 l.c1) ∧ w.cell? ⟨b, p + 2, none⟩ = some (.slice l.A2 l.n2 l.c2) ∧ w.cell? ⟨b, p + 3, none⟩ = some (.string x.label_)) ∧ (w.cell? ⟨b', p', none⟩ = some (.string y.name_) ∧ w.cell? ⟨b', p' + 1, none⟩ = some (.slice l'.A1 l'.n1 l'.c1) ∧ w.cell? ⟨b', p' + 2, none⟩ = some (.slice l'.A2 l'.n2 l'.c2) ∧ w.cell? ⟨b', p' + 3, none⟩ = some (.string y.label_)) ∧ TwoFn wr b b' p p' x y l l' w
theorem TwoFn.flat {wr w : World} {b b' p p' : Nat} {x y : Fn} {l l' : FnLay} (h : TwoFn wr b b' p p' x y l l' w) : FlatFn wr b b' p p' x y l l' w := ⟨h.1, h.2.1, h⟩
theorem TwoFn.drew {wr : World} {b b' p p' : Nat} {x y : Fn} {l l' : FnLay} (h : TwoFn wr b b' p p' x y l l' wr) : TwoFn wr b b' p p' x y l l' wr.drew := h.grow (Below.refl _ _).drew

set_option maxHeartbeats 1000000 in
set_option maxRecDepth 100000 in
theorem eqFunctionS_same (A A' : Option Addr) (n c c' : Nat) (xs : List Fn) (W : World) (ha : FnI W W.heap.size A n xs) (hb : FnI W W.heap.size A' n xs) :
    Calls Tryz.prog 93 #[.slice A n c, .slice A' n c'] W fun e w' => e = .returned (.bool true) ∧ Below W.heap.size W w' := by
  have HA := Lib.hid ha
  have HB := Lib.hid hb
  have hn := ha.2.1
  unfold maxLen at hn
  clear ha hb
  go_enter Tryz.func93, Tryz.ntmps93
  go_wp2
  go_loopw [5] (fun i wr => ∃ k : Nat, k ≤ n ∧ i = .int .i64 k ∧ Hid (Below W.heap.size W wr)) (fun i _ => n - (intOf i).toNat)
  case atStart => exact ⟨0, Nat.zero_le _, rfl, Below.refl _ _⟩
  case round =>
    obtain ⟨k, hk, rfl, HW⟩ := hrel
    by_cases hlt : k < n
    · obtain ⟨b, off, x, l, rfl, hg, hx, h1, hv1⟩ := (HA.out.go HW.out).at_ hlt
      obtain ⟨b', off', x', l', rfl, hg', hx', h2, hv2⟩ := (HB.out.go HW.out).at_ hlt
      obtain rfl : x = x' := Option.some.inj (hx.symm.trans hx')
      have H0 := Lib.hid (show TwoFn wr b b' (off + k * 4) (off' + k * 4) x x l l' wr from ⟨h1, h2, hv1, hv2, Below.refl _ _, hg, hg'⟩)
      have b0 : (0 : Int) ≤ (k : Int) := by omega
      have b1 : (k : Int) < (n : Int) := by omega
      clear h1 h2 hv1 hv2 hx hx' hg hg'
      go_wp2_with fail
      go_region_held3 (fun w' => FlatFn wr b b' (off + k * 4) (off' + k * 4) x x l l' w')
        (first | exact H0.out.drew.flat | exact (TwoFn.grow H0.out.drew hb).flat | go_keep)
        ((go_at_call 128; have HS := H0.out.drew; have HQ := eqFunction_same x l l' _ HS.2.2.1 HS.2.2.2.1; refine Calls.mono HQ ?_; clear HQ; rintro e w1 ⟨rfl, hb⟩))
      go_wp2_with fail
      go_split_ands
      have h2 : TwoFn wr b b' (off + k * 4) (off' + k * 4) x x l l' _ := ‹_›
      go_roundw
      case rel => exact ⟨k + 1, by omega, by go_num, HW.out.trans (h2.2.2.2.2.1.mono HW.out.size)⟩
      case measure => simp [intOf]; omega
    · go_wp2_with fail
      go_ret
      exact ⟨rfl, HW.out⟩
end Go.Proofs.YtfcpdjfckeoniaaGreatDoor

namespace Go.Proofs.YtfcpdjfckeoniaaGreatDoor
open Go Go.RowKit

structure Rt where
  name_ : ByteArray
  fields_ : List St
/-- Where its lists lie. -/
structure RtLay where
  A1 : Option Addr
  n1 : Nat
  c1 : Nat
  h1 : n1 ≤ c1
/-- As one value. -/
abbrev Rt.ag (x : Rt) (l : RtLay) : Value := .agg #[.string x.name_, .slice l.A1 l.n1 l.c1]
def Rt.vs (x : Rt) (l : RtLay) : List Value := [.string x.name_, .slice l.A1 l.n1 l.c1]
/-- Its lists lie below B. -/
def RtV (w : World) (B : Nat) (x : Rt) (l : RtLay) : Prop := StI w B l.A1 l.n1 x.fields_ ∧ x.name_.size ≤ maxLen
theorem RtV.below {w w' : World} {B : Nat} {x : Rt} {l : RtLay} (h : RtV w B x l) (hb : Below B w w') : RtV w' B x l := by
  obtain ⟨h0, h1⟩ := h
  exact ⟨h0.below hb, h1⟩
theorem RtV.more {w : World} {B B' : Nat} {x : Rt} {l : RtLay} (h : RtV w B x l) (hB : B ≤ B') : RtV w B' x l := by
  obtain ⟨h0, h1⟩ := h
  exact ⟨h0.more hB, h1⟩
theorem RtV.go {W w : World} {x : Rt} {l : RtLay} (h : RtV W W.heap.size x l) (hb : Below W.heap.size W w) : RtV w w.heap.size x l := (h.below hb).more hb.size
theorem RtV.alloc {W : World} {x : Rt} {l : RtLay} (h : RtV W W.heap.size x l) (o : Obj) : RtV (W.alloc o) (W.alloc o).heap.size x l := h.go (below_alloc W o)
/-- Its cells from p on of block b. -/
def RtAt (w : World) (b p : Nat) (x : Rt) (l : RtLay) : Prop := w.cell? ⟨b, p, none⟩ = some (.string x.name_) ∧ w.cell? ⟨b, p + 1, none⟩ = some (.slice l.A1 l.n1 l.c1)
theorem RtAt.below {w w' : World} {b p B : Nat} {x : Rt} {l : RtLay} (h : RtAt w b p x l) (hb : Below B w w') (hg : b < B) : RtAt w' b p x l := by
  obtain ⟨h0, h1⟩ := h
  exact ⟨(hb.cell (p := ⟨b, p, none⟩) hg).trans h0, (hb.cell (p := ⟨b, p + 1, none⟩) hg).trans h1⟩
theorem RtAt.range {w : World} {b p : Nat} {x : Rt} {l : RtLay} (h : RtAt w b p x l) : w.rangeAt b p (x.vs l) := by
  obtain ⟨h0, h1⟩ := h
  intro j v hj
  match j, hj with
  | 0, hj => cases hj; exact h0
  | 1, hj => cases hj; exact h1
  | j + 2, hj => simp [Rt.vs] at hj
/-- A slice of them that lies below B, with their lists. -/
def RtI (w : World) (B : Nat) (A : Option Addr) (n : Nat) (xs : List Rt) : Prop :=
  xs.length = n ∧ n ≤ maxLen ∧ (0 < n → ∃ b off, A = some ⟨b, off, none⟩ ∧ b < B ∧ ∀ (j : Nat) (x : Rt), xs[j]? = some x → ∃ l, RtAt w b (off + j * 2) x l ∧ RtV w B x l)
theorem RtI.below {w w' : World} {B n : Nat} {A : Option Addr} {xs : List Rt} (h : RtI w B A n xs) (hb : Below B w w') : RtI w' B A n xs :=
  ⟨h.1, h.2.1, fun hn => by
    obtain ⟨b, off, e, hg, hc⟩ := h.2.2 hn
    refine ⟨b, off, e, hg, fun j x hx => ?_⟩
    obtain ⟨l, h1, h2⟩ := hc j x hx
    exact ⟨l, h1.below hb hg, h2.below hb⟩⟩
theorem RtI.more {w : World} {B B' n : Nat} {A : Option Addr} {xs : List Rt} (h : RtI w B A n xs) (hB : B ≤ B') : RtI w B' A n xs :=
  ⟨h.1, h.2.1, fun hn => by
    obtain ⟨b, off, e, hg, hc⟩ := h.2.2 hn
    refine ⟨b, off, e, by omega, fun j x hx => ?_⟩
    obtain ⟨l, h1, h2⟩ := hc j x hx
    exact ⟨l, h1, h2.more hB⟩⟩
theorem RtI.at_ {w : World} {B n k : Nat} {A : Option Addr} {xs : List Rt} (h : RtI w B A n xs) (hk : k < n) : ∃ b off x l, A = some ⟨b, off, none⟩ ∧ b < B ∧ xs[k]? = some x ∧ RtAt w b (off + k * 2) x l ∧ RtV w B x l := by
  obtain ⟨b, off, e, hg, hc⟩ := h.2.2 (by omega)
  have hl : k < xs.length := by rw [h.1]; exact hk
  obtain ⟨l, h1, h2⟩ := hc k _ (List.getElem?_eq_getElem hl)
  exact ⟨b, off, xs[k], l, e, hg, List.getElem?_eq_getElem hl, h1, h2⟩
theorem RtI.go {W w : World} {A : Option Addr} {n : Nat} {xs : List Rt} (h : RtI W W.heap.size A n xs) (hb : Below W.heap.size W w) : RtI w w.heap.size A n xs := (h.below hb).more hb.size
theorem RtI.alloc {W : World} {A : Option Addr} {n : Nat} {xs : List Rt} (h : RtI W W.heap.size A n xs) (o : Obj) : RtI (W.alloc o) (W.alloc o).heap.size A n xs := h.go (below_alloc W o)

section
variable {H : Type} {enc : TypeId × Value → H} {W : World} {base : Nat} {held : Bool}
set_option maxRecDepth 100000 in
/-- Its cells, each with its own reading. -/
theorem open_RtN {fuel : Nat} {cs : List Value} {x : DataW H × List MemPlace} (h : DataW.trod enc Tryz.prog W base (fun _ => true) held fuel 168 cs = some x) :
    ∃ x l, cs = Rt.vs x l ∧ RtV W W.heap.size x l := by
  obtain ⟨ys, m, hm, _, hlen, _, hf⟩ := DataW.trod_struct Tryz.underlying168 h
  have hlen' : cs.length = 2 := hlen.trans (by kernel_rfl)
  match cs, hlen' with
  | [c0, c1], _ =>
    have hys : ∀ i, i < 2 → ∃ y, ys[i]? = some y := by
      intro i hi
      have : ys.length = 2 := by assumption
      exact ⟨_, List.getElem?_eq_getElem (by omega)⟩
    have f0 : DataW.trod enc Tryz.prog W base (fun _ => true) held m 9 [c0] = ys[0]? := field_at (i := 0) (o := 0) (k := 1) (T := 9) hf (by kernel_rfl) (by kernel_rfl)
    obtain ⟨y0, g0⟩ := hys 0 (by decide)
    rw [g0] at f0
    have f1 : DataW.trod enc Tryz.prog W base (fun _ => true) held m 22 [c1] = ys[1]? := field_at (i := 1) (o := 1) (k := 1) (T := 22) hf (by kernel_rfl) (by kernel_rfl)
    obtain ⟨y1, g1⟩ := hys 1 (by decide)
    rw [g1] at f1
    obtain ⟨z0, e0, _, hz0⟩ := DataW.trod_string Tryz.underlying9 f0
    obtain ⟨A1, n1, q1, hc1, e1⟩ := open_slice1 Tryz.underlying22 f1
    rw [e1] at f1
    obtain ⟨z1, hz1⟩ := open_StF f1
    simp only [List.cons.injEq, and_true] at e0 e1
    subst e0 e1
    exact ⟨⟨z0, z1⟩, ⟨A1, n1, q1, hc1⟩, rfl, hz1, hz0⟩
set_option maxRecDepth 100000 in
/-- An argument that is a slice. -/
theorem open_RtF {A : Option Addr} {n c fuel : Nat} {x : DataW H × List MemPlace} (hf : DataW.trod enc Tryz.prog W base (fun _ => true) held fuel 46 [.slice A n c] = some x) :
    ∃ xs, RtI W W.heap.size A n xs := by
  rcases Go.Deep.open_slice Tryz.underlying46 hf with ⟨h0, _⟩ | ⟨a, len, cap, m, k, D, Pl, hcs, hb, hl, hm, hmm, hx, hi⟩
  · simp at h0
    obtain ⟨rfl, rfl, rfl⟩ := h0
    exact ⟨[], rfl, Nat.zero_le _, fun h => absurd h (by omega)⟩
  · simp only [List.cons.injEq, Value.slice.injEq, and_true] at hcs
    obtain ⟨rfl, rfl, rfl⟩ := hcs
    simp only [if_true] at hmm
    have hC : Tryz.prog.cellsOf 168 = 2 := by kernel_rfl
    have key : ∀ i, i < n → ∃ o : Rt, ∃ l, (∀ j v, (Rt.vs o l)[j]? = some v → W.cell? (a.add (i * 2 + j)) = some v) ∧ RtV W W.heap.size o l := by
      intro i hin
      obtain ⟨cs', hc, ht'⟩ := hi i (by omega)
      rw [hC] at hc
      obtain ⟨o, l, e, ho⟩ := open_RtN ht'
      obtain ⟨_, hcl, hat⟩ := World.cells?_some hc
      refine ⟨o, l, fun j v hj => ?_, ho⟩
      rw [← e] at hj
      have hjl : j < 2 := by have := (List.getElem?_eq_some_iff.1 hj).1; omega
      rw [← Go.Deep.add_add, hat j hjl, hj]
    have hnm : n ≤ maxLen := Nat.le_trans hl hm
    by_cases hn : 0 < n
    · obtain ⟨ab, ao, spot⟩ := a
      obtain ⟨o0, l0, h0, _⟩ := key 0 hn
      have h00 := h0 0 _ rfl
      have hspot : spot = none := by simpa [Addr.add] using World.cell?_spot h00
      subst hspot
      rw [Addr.add_lit] at h00
      obtain ⟨os, hl', hx'⟩ := list_of (α := Rt) (P := fun j o => ∃ l, RtAt W ab (ao + j * 2) o l ∧ RtV W W.heap.size o l) (n := n) fun i hin => by
        obtain ⟨o, l, hc, ho⟩ := key i hin
        have hc' : ∀ j v, (Rt.vs o l)[j]? = some v → W.cell? ⟨ab, ao + i * 2 + j, none⟩ = some v := by
          intro j v hj
          have := hc j v hj
          rw [Addr.add_lit, ← Nat.add_assoc] at this
          exact this
        exact ⟨o, l, ⟨hc' 0 _ rfl, hc' 1 _ rfl⟩, ho⟩
      exact ⟨os, hl', hnm, fun _ => ⟨ab, ao, rfl, World.block_lt_of_cell? W ⟨ab, _, none⟩ h00, hx'⟩⟩
    · exact ⟨[], by simp; omega, hnm, fun h => absurd h hn⟩
end
set_option maxRecDepth 100000 in
/-- An argument. -/
theorem open_Rt {H : Type} {enc : TypeId × Value → H} {W : World} {v : Value} {d : DataW H} {p : List MemPlace} {r : Reach} {b0 : Nat} (hv : Value.okWide Tryz.prog W r b0 168 v) (h : DataW.Trod enc Tryz.prog W 0 (fun _ => true) true 168 v d p) :
    ∃ x l, v = Rt.ag x l ∧ RtV W W.heap.size x l := by
  obtain ⟨cs, rfl, hsz⟩ := Go.WideShapes.okWide_struct Tryz.underlying168 hv
  obtain ⟨fuel, hf⟩ := h
  obtain ⟨x, l, e, ho⟩ := open_RtN hf
  refine ⟨x, l, ?_, ho⟩
  have : cs.toList = Rt.vs x l := e
  rw [show cs = (Rt.vs x l).toArray from by rw [← this]]
  rfl
theorem open_RtS {H : Type} {enc : TypeId × Value → H} {W : World} {A : Option Addr} {n c : Nat} {d : DataW H} {p : List MemPlace} (h : DataW.Trod enc Tryz.prog W 0 (fun _ => true) true 46 (.slice A n c) d p) :
    ∃ xs, RtI W W.heap.size A n xs := by
  obtain ⟨fuel, hf⟩ := h
  exact open_RtF (by simpa [Value.cells] using hf)

/-- What szRecordType takes of the bound. -/
def szRt1 (x : Rt) : Nat := x.name_.size + szSt x.fields_

set_option maxHeartbeats 2000000 in
set_option maxRecDepth 100000 in
theorem szRecordType_any (x : Rt) (l : RtLay) (L : Int) (W : World) (ho : RtV W W.heap.size x l) (hLL : 0 ≤ L) (hL : L ≤ 1048576) :
    Calls Tryz.prog 113 #[x.ag l, .int .i64 L] W (SzL (szRt1 x) L W) := by
  obtain ⟨s, hs⟩ : ∃ s, szRt1 x = s := ⟨_, rfl⟩
  rw [hs]
  unfold szRt1 at hs
  obtain ⟨x0, x1⟩ := x
  obtain ⟨A1, n1, c1, h1⟩ := l
  obtain ⟨k1, k0⟩ := ho
  try unfold RtV at k1 k0
  dsimp only at hs k1 k0
  have HS := Lib.hid hs
  have HL0 := Lib.hid hLL
  have HL1 := Lib.hid hL
  have HK1 := Lib.hid k1
  unfold maxLen at k0
  have HC := Lib.hid (fun X (e : X = W.alloc (.cells #[.string x0, .slice A1 n1 c1] 168)) => (show RW 168 X W.heap.size #[.string x0, .slice A1 n1 c1] ∧ Below W.heap.size W X ∧ W.heap.size < X.heap.size from by rw [e]; exact ⟨RW.new _ _ _, below_alloc _ _, lt_alloc _ _⟩))
  clear hs k1
  show Calls Tryz.prog 113 #[.agg #[.string x0, .slice A1 n1 c1], .int .i64 L] W _
  by_cases cc0 : (x0.size : Int) ≤ L
  · have C0 := Lib.hid cc0
    clear cc0
    by_cases cc1 : (x0.size : Int) + (szSt x1 : Int) ≤ L
    · have C1 := Lib.hid cc1
      clear cc1
      have d0 : decide (L - (x0.size : Int) < 0) = false := (by have := C0.out; simp; omega)
      go_enter Tryz.func113, Tryz.ntmps113
      go_wp2_with (go_at_call 19; obtain ⟨g0, g1, g2⟩ := HC.out _ rfl; have HQ := szStringS_any A1 n1 c1 x1 (L - (x0.size : Int)) _ (HK1.out.go g1) (by have := C0.out; have := HL0.out; omega) (by have := C0.out; have := HL1.out; omega); refine Calls.mono HQ ?_; clear HQ; intro e w1 h; obtain ⟨z1, rfl, hz1, l1, u1, hb⟩ := h.fits (by have := C0.out; have := C1.out; omega) (by have := C0.out; have := HL1.out; omega); have Z1 := Lib.hid hz1; have d1 : decide (z1 < 0) = false := (by simp; omega); have HR1 := Lib.hid (g0.below hb g2); have HB1 := Lib.hid (g1.trans (hb.mono g1.size)); have HG1 := Lib.hid (Nat.lt_of_lt_of_le g2 hb.size); clear hb hz1 g0 g1 g2 HK1)
      go_ret
      refine ⟨.inl ⟨by have := C0.out; have := C1.out; have := Z1.out; have := HS.out; omega, ?_⟩, HB1.out⟩
      have hx : z1 = L - (s : Int) := by have := C0.out; have := C1.out; have := Z1.out; have := HS.out; omega
      rw [← hx]
      rfl
    · have C1 := Lib.hid cc1
      clear cc1
      have d0 : decide (L - (x0.size : Int) < 0) = false := (by have := C0.out; simp; omega)
      go_enter Tryz.func113, Tryz.ntmps113
      go_wp2_with (go_at_call 19; obtain ⟨g0, g1, g2⟩ := HC.out _ rfl; have HQ := szStringS_any A1 n1 c1 x1 (L - (x0.size : Int)) _ (HK1.out.go g1) (by have := C0.out; have := HL0.out; omega) (by have := C0.out; have := HL1.out; omega); refine Calls.mono HQ ?_; clear HQ; intro e w1 h; obtain ⟨rfl, hb⟩ := h.long (by have := C0.out; have := C1.out; omega); have HR1 := Lib.hid (g0.below hb g2); have HB1 := Lib.hid (g1.trans (hb.mono g1.size)); have HG1 := Lib.hid (Nat.lt_of_lt_of_le g2 hb.size); clear hb g0 g1 g2 HK1)
      go_ret
      exact ⟨.inr ⟨by have := C0.out; have := C1.out; have := HS.out; omega, rfl⟩, HB1.out⟩
  · have C0 := Lib.hid cc0
    clear cc0
    have d0 : decide (L - (x0.size : Int) < 0) = true := (by have := C0.out; simp; omega)
    go_enter Tryz.func113, Tryz.ntmps113
    go_wp2_with fail
    go_ret
    exact ⟨.inr ⟨by have := C0.out; have := HS.out; omega, rfl⟩, (below_alloc _ _)⟩

/-- Those of the first k. -/
def sumRt (xs : List Rt) : Nat → Nat
  | 0 => 0
  | k + 1 => sumRt xs k + ((xs[k]?.map szRt1).getD 0)
theorem sumRt_next {xs : List Rt} {k : Nat} {x : Rt} (h : xs[k]? = some x) : sumRt xs (k + 1) = sumRt xs k + szRt1 x := by
  rw [sumRt, h]
  rfl
theorem sumRt_mono {xs : List Rt} {j : Nat} : ∀ {k : Nat}, j ≤ k → sumRt xs j ≤ sumRt xs k
  | 0, h => by obtain rfl : j = 0 := by omega
               exact Nat.le_refl _
  | k + 1, h => by
    by_cases e : j = k + 1
    · rw [e]; exact Nat.le_refl _
    · have := sumRt_mono (xs := xs) (show j ≤ k by omega)
      rw [sumRt]
      omega
def szRt (xs : List Rt) : Nat := xs.length + sumRt xs xs.length

set_option maxHeartbeats 1000000 in
set_option maxRecDepth 100000 in
theorem szRecordTypeS_any (A : Option Addr) (n c : Nat) (xs : List Rt) (L : Int) (W : World) (hr : RtI W W.heap.size A n xs) (h0 : 0 ≤ L) (hL : L ≤ 1048576) :
    Calls Tryz.prog 73 #[.slice A n c, .int .i64 L] W (SzL (szRt xs) L W) := by
  have HR := Lib.hid hr
  have hn := hr.2.1
  have hxn := hr.1
  clear hr
  obtain ⟨s, hs⟩ : ∃ s, szRt xs = s := ⟨_, rfl⟩
  have HS : Hid (s = n + sumRt xs n) := by show _ = _; rw [← hs, szRt, hxn]
  rw [hs]
  clear hs hxn
  unfold maxLen at hn
  by_cases hbig : L < (n : Int)
  · have HB : Hid (L < (s : Int)) := by show _ < _; have := HS.out; omega
    have h2 : (n : Int) ≤ 9223372036854775807 := by omega
    have d0 : decide (L - n < 0) = true := by simp; omega
    go_enter Tryz.func73, Tryz.ntmps73
    go_wp2_with fail
    go_ret
    exact ⟨.inr ⟨HB.out, rfl⟩, Below.refl _ _⟩
  · have h1 : (n : Int) ≤ L := by omega
    have hn' : n ≤ 1048576 := by omega
    have d0 : decide (L - n < 0) = false := by simp; omega
    clear hbig
    go_enter Tryz.func73, Tryz.ntmps73
    go_wp2_with fail
    go_loopw [1, 5] (fun q i wr => ∃ k : Nat, ∃ z : Int, k ≤ n ∧ i = .int .i64 k ∧ q = .int .i64 z ∧ 0 ≤ z ∧ z ≤ 1048576 ∧ Hid (z = L - (n : Int) - (sumRt xs k : Int)) ∧ Hid (Below W.heap.size W wr)) (fun _ i _ => n - (intOf i).toNat)
    case atStart => exact ⟨0, _, Nat.zero_le _, rfl, rfl, by omega, by omega, by show _ = _; simp [sumRt], Below.refl _ _⟩
    case round =>
      obtain ⟨k, z, hk, rfl, rfl, hz0, hz1, HZ, HW⟩ := hrel
      by_cases hlt : k < n
      · obtain ⟨b, off, x, l, rfl, hg, hx, ⟨q0, q1⟩, hov⟩ := (HR.out.below HW.out).at_ hlt
        have HO := Lib.hid (hov.more HW.out.size)
        have HX := Lib.hid hx
        have b0 : (0 : Int) ≤ (k : Int) := by omega
        have b1 : (k : Int) < (n : Int) := by omega
        have HZ0 : Hid (0 ≤ z) := hz0
        have HZ1 : Hid (z ≤ 1048576) := hz1
        clear hx hov hg
        by_cases hf : (szRt1 x : Int) ≤ z
        · have HF := Lib.hid hf
          have HN : Hid (sumRt xs (k + 1) = sumRt xs k + szRt1 x) := sumRt_next HX.out
          clear hf
          go_wp2_with (go_at_call 113; refine (szRecordType_any x l _ _ HO.out HZ0.out HZ1.out).mono ?_; intro e w1 h; obtain ⟨z1, rfl, hz2, l1, u1, hb⟩ := h.fits HF.out HZ1.out; have Z1 := Lib.hid hz2; have dz : decide (z1 < 0) = false := (by simp; omega); have HW1 : Hid (Below W.heap.size W w1) := HW.out.trans (hb.mono HW.out.size); clear hb hz2)
          go_roundw
          case rel => exact ⟨k + 1, _, by omega, by go_num, rfl, by omega, by omega, by show _ = _; rw [HN.out, Z1.out, HZ.out]; omega, HW1⟩
          case measure => simp [intOf]; omega
        · have HF := Lib.hid hf
          have HBIG : Hid (L < (s : Int)) := by
            show _ < _
            have h1 := sumRt_mono (xs := xs) (j := k + 1) (k := n) (by omega)
            rw [sumRt_next HX.out] at h1
            have h2 := HZ.out
            have h3 := HS.out
            omega
          clear hf
          go_wp2_with (go_at_call 113; refine (szRecordType_any x l _ _ HO.out HZ0.out HZ1.out).mono ?_; intro e w1 h; obtain ⟨rfl, hb⟩ := h.long HF.out; have HW1 : Hid (Below W.heap.size W w1) := HW.out.trans (hb.mono HW.out.size); clear hb)
          go_ret
          exact ⟨.inr ⟨HBIG.out, rfl⟩, HW1.out⟩
      · have hkn : k = n := by omega
        have HE : Hid ((s : Int) ≤ L ∧ z = L - (s : Int)) := by
          have h := HZ.out
          have h3 := HS.out
          rw [hkn] at h
          exact ⟨by omega, by omega⟩
        go_wp2_with fail
        go_ret
        exact ⟨.inl ⟨HE.out.1, by rw [HE.out.2]; rfl⟩, HW.out⟩
/-- No list is too long. -/
def RtSmall (x : Rt) : Prop := x.fields_.length ≤ 1048576
theorem small_Rt1 {x : Rt} (h : (szRt1 x : Int) ≤ 1048576) : RtSmall x := by
  unfold szRt1 at h
  unfold RtSmall
  exact (by unfold szSt at h; omega)
theorem small_Rt {xs : List Rt} (h : (szRt xs : Int) ≤ 1048576) : (∀ (j : Nat) (x : Rt), xs[j]? = some x → RtSmall x) ∧ xs.length ≤ 1048576 := by
  unfold szRt at h
  refine ⟨fun j x hx => small_Rt1 ?_, by omega⟩
  have hl := (List.getElem?_eq_some_iff.1 hx).1
  have h1 := sumRt_mono (xs := xs) (j := j + 1) (k := xs.length) (by omega)
  rw [sumRt_next hx] at h1
  omega
end Go.Proofs.YtfcpdjfckeoniaaGreatDoor

namespace Go.Proofs.YtfcpdjfckeoniaaGreatDoor
open Go Go.RowKit

/-- What toRecordType answers. -/
def ToRt (x : Rt) (W : World) (e : Ending) (w' : World) : Prop := ∃ l, e = .returned (x.ag l) ∧ Hid (RtV w' w'.heap.size x l ∧ Below W.heap.size W w' ∧ l.n1 = x.fields_.length ∧ ∃ b1, l.A1 = some ⟨b1, 0, none⟩ ∧ W.heap.size ≤ b1)

set_option maxHeartbeats 2000000 in
set_option maxRecDepth 100000 in
theorem toRecordType_any (x : Rt) (l : RtLay) (W : World) (ho : RtV W W.heap.size x l) (hsm : RtSmall x) :
    Calls Tryz.prog 121 #[x.ag l] W (ToRt x W) := by
  obtain ⟨x0, x1⟩ := x
  obtain ⟨A1, n1, c1, h1⟩ := l
  obtain ⟨k1, k0⟩ := ho
  have s1 := hsm
  try unfold RtV at k1 k0
  try unfold RtSmall at s1
  dsimp only at k1 k0 s1
  rw [k1.1] at s1
  have HK1 := Lib.hid k1
  have HS1 := Lib.hid s1
  have HT0 := Lib.hid k0
  clear k1 k0 s1
  have HC := Lib.hid (fun (X Y : World) (T T' : TypeId) (c c' : Array Value) (eY : Y = W.alloc (.cells #[.string x0, .slice A1 n1 c1] T)) (eX : X = (Y.alloc (.cells c T')).alloc (.cells c' T')) =>
    (show RW T X W.heap.size #[.string x0, .slice A1 n1 c1] ∧ RW T' X (W.heap.size + 1 + 1) c' ∧ RW T' X (W.heap.size + 1) c ∧ Below W.heap.size W X ∧ X.heap.size = W.heap.size + 3 from by
      subst eX; subst eY
      refine ⟨((RW.new W _ T).alloc _).alloc _, ?_, ?_, ((below_alloc _ _).alloc (by simp) _).alloc (by simp; omega) _, by simp⟩
      · have := RW.new ((W.alloc (.cells #[.string x0, .slice A1 n1 c1] T)).alloc (.cells c T')) c' T'
        simpa using this
      · have := (RW.new (W.alloc (.cells #[.string x0, .slice A1 n1 c1] T)) c T').alloc (.cells c' T')
        simpa using this))
  show Calls Tryz.prog 121 #[.agg #[.string x0, .slice A1 n1 c1]] W _
  go_enter Tryz.func121, Tryz.ntmps121
  go_wp2_with (go_at_call 24; obtain ⟨g0, g1, g4, g2, g3⟩ := HC.out _ _ _ _ _ _ rfl rfl; have HQ := toStringS_any A1 n1 c1 x1 _ (HK1.out.go g2) HS1.out; refine Calls.mono HQ ?_; clear HQ; rintro e w1 ⟨rfl, h⟩; obtain ⟨hv, hb⟩ := h.out; have hd := hv.det; rw [g3] at hv hd; have HA1 := Lib.hid (g0.below hb (by omega)); have HR1 := Lib.hid (g1.below hb (by omega)); have HO1 := Lib.hid (g4.below hb (by omega)); have HB1 := Lib.hid (g2.trans (hb.mono g2.size)); have HV1_1 : Hid (Det (W.heap.size + 1 + 1 + 1) w1.heap.size w1 fun w => StI w w1.heap.size (some ⟨W.heap.size + 1 + 1 + 1, 0, none⟩) n1 x1) := hd; have HG1 : Hid (W.heap.size + 3 ≤ w1.heap.size) := (by have := hb.size; show _ ≤ _; omega); clear g0 g1 g2 g3 g4 h hv hd hb HK1; have p11 : w1.cell? ⟨W.heap.size + 1 + 1, 1, none⟩ = some (.slice none 0 0) := HR1.out.cell 1; have f11 := HR1.out.frozen 1; have p10 : w1.cell? ⟨W.heap.size + 1 + 1, 0, none⟩ = some (.string x0) := HR1.out.cell 0; have r0 : w1.cell? ⟨W.heap.size + 1, 0, none⟩ = some (.string ⟨#[]⟩) := HO1.out.cell 0; have z0 := HO1.out.frozen 0; have r1 : w1.cell? ⟨W.heap.size + 1, 1, none⟩ = some (.slice none 0 0) := HO1.out.cell 1; have z1 := HO1.out.frozen 1)
  have hs1 := HG1.out
  have hb1 : Below (W.heap.size + 1) w1 (((w1.setCell ⟨W.heap.size + 1 + 1, 1, none⟩ (.slice (some ⟨W.heap.size + 1 + 1 + 1, 0, none⟩) n1 n1)).setCell ⟨W.heap.size + 1, 0, none⟩ (.string x0)).setCell ⟨W.heap.size + 1, 1, none⟩ (.slice (some ⟨W.heap.size + 1 + 1 + 1, 0, none⟩) n1 n1)) := (((below_set w1 (p := ⟨W.heap.size + 1 + 1, 1, none⟩) (by simp) _).setCell (by simp) _).setCell (by simp) _)
  have hzz : (((w1.setCell ⟨W.heap.size + 1 + 1, 1, none⟩ (.slice (some ⟨W.heap.size + 1 + 1 + 1, 0, none⟩) n1 n1)).setCell ⟨W.heap.size + 1, 0, none⟩ (.string x0)).setCell ⟨W.heap.size + 1, 1, none⟩ (.slice (some ⟨W.heap.size + 1 + 1 + 1, 0, none⟩) n1 n1)).heap.size = w1.heap.size := by simp [World.setCell]
  refine bodyPost_ret (v := .agg #[.string x0, .slice (some ⟨W.heap.size + 1 + 1 + 1, 0, none⟩) n1 n1]) (results_cell_row Tryz.results121 _ _ (W.heap.size + 1) 121 _ (0, 0) _ rfl ((((((HO1.out).other (p := ⟨W.heap.size + 1 + 1, 1, none⟩) (by simp) (.slice (some ⟨W.heap.size + 1 + 1 + 1, 0, none⟩) n1 n1))).set_ 0 (.string x0))).set_ 1 (.slice (some ⟨W.heap.size + 1 + 1 + 1, 0, none⟩) n1 n1)) Tryz.underlying121 rfl (by kernel_rfl)) rfl ⟨⟨some ⟨W.heap.size + 1 + 1 + 1, 0, none⟩, n1, n1, Nat.le_refl _⟩, rfl, Lib.hid ⟨?_, HB1.out.trans (hb1.mono (by omega)), HV1_1.out.self.1.symm, _, rfl, by omega⟩⟩
  show RtV (((w1.setCell ⟨W.heap.size + 1 + 1, 1, none⟩ (.slice (some ⟨W.heap.size + 1 + 1 + 1, 0, none⟩) n1 n1)).setCell ⟨W.heap.size + 1, 0, none⟩ (.string x0)).setCell ⟨W.heap.size + 1, 1, none⟩ (.slice (some ⟨W.heap.size + 1 + 1 + 1, 0, none⟩) n1 n1)) (((w1.setCell ⟨W.heap.size + 1 + 1, 1, none⟩ (.slice (some ⟨W.heap.size + 1 + 1 + 1, 0, none⟩) n1 n1)).setCell ⟨W.heap.size + 1, 0, none⟩ (.string x0)).setCell ⟨W.heap.size + 1, 1, none⟩ (.slice (some ⟨W.heap.size + 1 + 1 + 1, 0, none⟩) n1 n1)).heap.size ⟨x0, x1⟩ ⟨some ⟨W.heap.size + 1 + 1 + 1, 0, none⟩, n1, n1, Nat.le_refl _⟩
  rw [hzz]
  exact ⟨((((((HV1_1.out).set (p := ⟨W.heap.size + 1 + 1, 1, none⟩) (by first | (dsimp only; omega) | omega) _)).set (p := ⟨W.heap.size + 1, 0, none⟩) (by first | (dsimp only; omega) | omega) _)).set (p := ⟨W.heap.size + 1, 1, none⟩) (by first | (dsimp only; omega) | omega) _).self, HT0.out⟩

/-- The elements of block g ahead of j are filled; their lists lie elsewhere. -/
def FilledRt (w : World) (g j n : Nat) (xs : List Rt) : Prop :=
  ∃ cs, RW 121 w g cs ∧ n * 2 ≤ cs.size ∧ ∀ (i : Nat) (x : Rt), i < j → xs[i]? = some x → ∃ l b1, l.A1 = some ⟨b1, 0, none⟩ ∧ g < b1 ∧ RtV w w.heap.size x l ∧ ∀ (q : Nat) (v : Value), (x.vs l)[q]? = some v → cs[i * 2 + q]? = some v
theorem FilledRt.below {w w' : World} {g j n : Nat} {xs : List Rt} (h : FilledRt w g j n xs) (hb : Below w.heap.size w w') : FilledRt w' g j n xs := by
  obtain ⟨cs, hr, hn, hm⟩ := h
  refine ⟨cs, hr.below hb hr.lt, hn, fun i x hi hx => ?_⟩
  obtain ⟨l, b1, h1, u1, h5, h6⟩ := hm i x hi hx
  exact ⟨l, b1, h1, u1, (h5.below hb).more hb.size, h6⟩
theorem RtV.others {w : World} {B g o : Nat} {x : Rt} {l : RtLay} {b1 : Nat} (h : RtV w B x l) (h1 : l.A1 = some ⟨b1, 0, none⟩) (u1 : b1 ≠ g) (vs : List Value) : RtV (w.setCells g o vs) B x l := by
  obtain ⟨a0, a1⟩ := h
  try unfold RtV at a0 a1 ⊢
  rw [h1] at a0
  refine ⟨?_, a1⟩
  · rw [h1]; exact a0.others u1
theorem size_setsRt (vs : List Value) (w : World) (g k : Nat) : (w.setCells g k vs).heap.size = w.heap.size := by
  induction vs generalizing w k with
  | nil => rfl
  | cons v r ih => exact (ih _ _).trans (size_set _ _ _)
theorem FilledRt.store {w : World} {g j n : Nat} {xs : List Rt} {x : Rt} {l : RtLay} {b1 : Nat} (h : FilledRt w g j n xs) (hx : xs[j]? = some x) (hj : j < n) (h1 : l.A1 = some ⟨b1, 0, none⟩) (u1 : g < b1) (h5 : RtV w w.heap.size x l) :
    FilledRt (w.setCells g (j * 2) (x.vs l)) g (j + 1) n xs := by
  obtain ⟨cs, hr, hn, hm⟩ := h
  have hs : (w.setCells g (j * 2) (x.vs l)).heap.size = w.heap.size := size_setsRt _ _ _ _
  have hlK : (x.vs l).length = 2 := rfl
  refine ⟨_, hr.cells, by rw [putL_size]; exact hn, fun i y hi hy => ?_⟩
  by_cases e : i = j
  · subst e
    rw [hx, Option.some.injEq] at hy
    subst hy
    refine ⟨l, b1, h1, u1, ?_, fun q v hq => putL_new _ _ _ _ _ (by rw [hlK]; omega) hq⟩
    rw [hs]
    exact h5.others h1 (by omega) _
  · obtain ⟨l', b1', j1, v1, k5, k6⟩ := hm i y (by omega) hy
    refine ⟨l', b1', j1, v1, ?_, fun q v hq => ?_⟩
    · rw [hs]
      exact k5.others j1 (by omega) _
    · have hqK : q < 2 := (List.getElem?_eq_some_iff.1 hq).1
      rw [putL_old _ _ _ _ (by omega)]
      exact k6 q v hq
theorem FilledRt.all {w : World} {g n : Nat} {xs : List Rt} (h : FilledRt w g n n xs) (hl : xs.length = n) (hn : n ≤ maxLen) : RtI w w.heap.size (some ⟨g, 0, none⟩) n xs := by
  obtain ⟨cs, hr, hc, hm⟩ := h
  refine ⟨hl, hn, fun _ => ⟨g, 0, rfl, hr.lt, fun j x hx => ?_⟩⟩
  obtain ⟨l, _, _, _, h5, h6⟩ := hm j x (by rw [← hl]; exact (List.getElem?_eq_some_iff.1 hx).1) hx
  rw [Nat.zero_add]
  have k : ∀ q v, (x.vs l)[q]? = some v → w.cell? ⟨g, j * 2 + q, none⟩ = some v := fun q v hq => (hr.cell _).trans (h6 q v hq)
  exact ⟨l, ⟨k 0 _ rfl, k 1 _ rfl⟩, h5⟩
theorem FilledRt.det {w : World} {g n : Nat} {xs : List Rt} (h : FilledRt w g n n xs) (hl : xs.length = n) (hn : n ≤ maxLen) : Det g w.heap.size w fun w' => RtI w' w.heap.size (some ⟨g, 0, none⟩) n xs := by
  intro w' hk
  obtain ⟨cs, hr, hc, hm⟩ := h
  have hr' : RW 121 w' g cs := (hk g (Nat.le_refl _) hr.lt).trans hr
  refine ⟨hl, hn, fun _ => ⟨g, 0, rfl, hr.lt, fun j x hx => ?_⟩⟩
  obtain ⟨l, b1, h1, u1, h5, h6⟩ := hm j x (by rw [← hl]; exact (List.getElem?_eq_some_iff.1 hx).1) hx
  rw [Nat.zero_add]
  have k : ∀ q v, (x.vs l)[q]? = some v → w'.cell? ⟨g, j * 2 + q, none⟩ = some v := fun q v hq => (hr'.cell _).trans (h6 q v hq)
  refine ⟨l, ⟨k 0 _ rfl, k 1 _ rfl⟩, ?_⟩
  obtain ⟨a0, a1⟩ := h5
  try unfold RtV at a0 a1 ⊢
  refine ⟨?_, a1⟩
  · rw [h1] at a0 ⊢; exact a0.det w' fun g' h1 h2 => hk g' (by omega) h2
theorem infoRt : (Tryz.prog.info? 121).map (fun i => (i.zero, i.size, i.bytes)) = some (some (Value.agg #[.string ⟨#[]⟩, .slice none 0 0]), 2, 40) := by kernel_rfl
theorem ownRt {w : World} {B g n : Nat} {xs : List Value} (h : w.ownsRow B 121 2 (.slice (some ⟨g, 0, none⟩) n n) n xs) : ∃ cs, RW 121 w g cs ∧ n * 2 ≤ cs.size := by
  rcases h.2 with ⟨h', _⟩ | ⟨g', cap', cur, h', _, hg, _, _, hsz, _⟩
  · simp at h'
  · simp only [Value.slice.injEq, Option.some.injEq, Addr.mk.injEq, and_true, true_and] at h'
    obtain ⟨rfl, rfl⟩ := h'
    exact ⟨cur, hg, by omega⟩
/-- What toRecordTypeS answers. -/
def ToRtS (xs : List Rt) (n : Nat) (W : World) (e : Ending) (w' : World) : Prop :=
  e = .returned (.slice (some ⟨W.heap.size, 0, none⟩) n n) ∧ Hid (RtI w' w'.heap.size (some ⟨W.heap.size, 0, none⟩) n xs ∧ Below W.heap.size W w' ∧ Det W.heap.size w'.heap.size w' fun w => RtI w w'.heap.size (some ⟨W.heap.size, 0, none⟩) n xs)

set_option maxHeartbeats 2000000 in
set_option maxRecDepth 100000 in
theorem toRecordTypeS_any (A : Option Addr) (n c : Nat) (xs : List Rt) (W : World) (hr : RtI W W.heap.size A n xs) (hs : ∀ (j : Nat) (x : Rt), xs[j]? = some x → RtSmall x) (hn : n ≤ 1048576) :
    Calls Tryz.prog 82 #[.slice A n c] W (ToRtS xs n W) := by
  obtain ⟨i0, hi, hz0, hz1, hz2⟩ := info_parts infoRt
  have HR := Lib.hid hr
  have HS := Lib.hid hs
  have h1 : (n : Int) ≤ 1048576 := by omega
  clear hr hs
  go_enter Tryz.func82, Tryz.ntmps82
  go_wp2_with (at_make; refine wpList_make_full _ rfl _ _ 58 rfl W.heap.size 121 i0 (.agg #[.string ⟨#[]⟩, .slice none 0 0]) 2 Tryz.underlying58 hi hz0 hz1 .i64 .i64 n n n rfl rfl rfl rfl (by rw [hz2]; omega) (by unfold maxLen; omega) (Nat.le_refl _) ?_)
  intro w1 hown hgrow
  have HB1 : Hid (Below W.heap.size W w1) := below_grown_none hgrow
  obtain ⟨cs, hcs, hcn⟩ := ownRt hown
  have HG : Hid (W.heap.size < w1.heap.size) := hcs.lt
  have HM : Hid (FilledRt w1 W.heap.size 0 n xs) := ⟨cs, hcs, hcn, fun i x hi => absurd hi (by omega)⟩
  clear hown hgrow hcs hcn hi hz0 hz1 hz2
  go_wp2_with fail
  go_loopw [4] (fun i wr => ∃ j : Nat, j ≤ n ∧ i = .int .i64 j ∧ Hid (Below W.heap.size W wr) ∧ Hid (W.heap.size < wr.heap.size) ∧ Hid (FilledRt wr W.heap.size j n xs)) (fun i _ => n - (intOf i).toNat)
  case atStart => exact ⟨0, Nat.zero_le _, rfl, HB1, HG, HM⟩
  case round =>
    obtain ⟨j, hj, rfl, HW, HZ, HJ⟩ := hrel
    by_cases hlt : j < n
    · obtain ⟨b, off, x, l, rfl, hg, hx, ⟨q0, q1⟩, hov⟩ := (HR.out.below HW.out).at_ hlt
      have HX := Lib.hid hx
      have HO := Lib.hid (hov.more HW.out.size)
      have HLT := Lib.hid hlt
      have HS1 := Lib.hid (HS.out j x hx)
      clear hx hov hg
      have b0 : (0 : Int) ≤ (j : Int) := by omega
      have b1 : (j : Int) < (n : Int) := by omega
      go_wp2_with (first | (go_at_call 121; have HQ := toRecordType_any x l _ HO.out HS1.out; refine Calls.mono HQ ?_; clear HQ; rintro e w2 ⟨⟨A1, n1, c1, h1⟩, rfl, h⟩; obtain ⟨g1, hb, en1, b1, e1, g1g⟩ := h.out; clear en1; have HF := Lib.hid (HJ.out.below hb); have hlt2 := HLT.out; have hzz := HZ.out; have HF2 : Hid (FilledRt (w2.setCells W.heap.size (j * 2) [.string x.name_, .slice A1 n1 c1]) W.heap.size (j + 1) n xs) := (by have k := HF.out.store HX.out hlt2 e1 (Nat.lt_of_lt_of_le hzz g1g) g1; unfold Rt.vs at k; exact k); have HT : Hid (w2.there W.heap.size (j * 2) 2) := (by obtain ⟨cs, hr, hc, _⟩ := HF.out; exact hr.there (by omega)); have HW2 : Hid (Below W.heap.size W (w2.setCells W.heap.size (j * 2) [.string x.name_, .slice A1 n1 c1])) := ((HW.out.trans (hb.mono HW.out.size)).trans (below_cells (Nat.le_refl _) _ _ _)); have HZ2 : Hid (W.heap.size < (w2.setCells W.heap.size (j * 2) [.string x.name_, .slice A1 n1 c1]).heap.size) := (by obtain ⟨_, hr, _⟩ := HF2.out; exact hr.lt); have tk1 : True := trivial; clear h g1 hb e1 g1g hlt2 hzz q0 q1) | (clear tk1; refine wpList_store_mid rfl 121 (.tmp 21) (.tmp 20) rfl W.heap.size (j * 2) _ rfl rfl HT.out (by kernel_rfl) (by kernel_rfl) ?_; go_frame; clear HT; generalize w2.setCells W.heap.size (j * 2) [.string x.name_, .slice A1 n1 c1] = w3 at HF2 HW2 HZ2 ⊢))
      go_roundw
      case rel => exact ⟨j + 1, by omega, by go_num, HW2, HZ2, HF2⟩
      case measure => simp [intOf]; omega
    · have HN : Hid (j = n) := by show _ = _; omega
      go_wp2_with fail
      go_ret
      have h := HJ.out
      rw [HN.out] at h
      exact ⟨rfl, Lib.hid ⟨h.all HR.out.1 HR.out.2.1, HW.out, h.det HR.out.1 HR.out.2.1⟩⟩
end Go.Proofs.YtfcpdjfckeoniaaGreatDoor

namespace Go.Proofs.YtfcpdjfckeoniaaGreatDoor
open Go Go.RowKit

set_option maxHeartbeats 1000000 in
set_option maxRecDepth 100000 in
theorem eqRecordType_same (x : Rt) (l l' : RtLay) (W : World) (ho : RtV W W.heap.size x l) (ho' : RtV W W.heap.size x l') :
    Calls Tryz.prog 129 #[x.ag l, x.ag l'] W fun e w' => e = .returned (.bool true) ∧ Below W.heap.size W w' := by
  obtain ⟨x0, x1⟩ := x
  obtain ⟨A1, n1, c1, h1⟩ := l
  obtain ⟨A1', n1', c1', h1'⟩ := l'
  obtain ⟨k1, k0⟩ := ho
  obtain ⟨j1, j0⟩ := ho'
  try unfold RtV at k1 j1 k0 j0
  dsimp only at k1 j1 k0 j0
  obtain rfl : n1 = n1' := k1.1.symm.trans j1.1
  have HK1 := Lib.hid k1
  have HJ1 := Lib.hid j1
  clear k1 j1 k0 j0
  have HC := Lib.hid (two_new W 121 #[.string x0, .slice A1 n1 c1] #[.string x0, .slice A1' n1 c1'])
  show Calls Tryz.prog 129 #[.agg #[.string x0, .slice A1 n1 c1], .agg #[.string x0, .slice A1' n1 c1']] W _
  go_enter Tryz.func129, Tryz.ntmps129
  go_wp2_with (go_at_call 29; obtain ⟨g0, g1, g2, g3⟩ := HC.out _ rfl; have HQ := eqStringS_same A1 A1' n1 c1 c1' x1 _ (HK1.out.go g2) (HJ1.out.go g2); refine Calls.mono HQ ?_; clear HQ; rintro e w1 ⟨rfl, hb⟩; have HA1 := Lib.hid (g0.below hb (by omega)); have HD1 := Lib.hid (g1.below hb (by omega)); have HB1 := Lib.hid (g2.trans (hb.mono g2.size)); have HG1 : Hid (W.heap.size + 2 ≤ w1.heap.size) := (by have := hb.size; show _ ≤ _; omega); clear g0 g1 g2 g3 hb HK1)
  all_goals go_ret
  all_goals exact ⟨rfl, HB1.out⟩

/-- Two in two blocks, and their lists. -/
def TwoRt (wr : World) (b b' p p' : Nat) (x y : Rt) (l l' : RtLay) (w : World) : Prop := RtAt w b p x l ∧ RtAt w b' p' y l' ∧ RtV w w.heap.size x l ∧ RtV w w.heap.size y l' ∧ Below wr.heap.size wr w ∧ b < w.heap.size ∧ b' < w.heap.size
theorem TwoRt.grow {wr w w' : World} {b b' p p' : Nat} {x y : Rt} {l l' : RtLay} (h : TwoRt wr b b' p p' x y l l' w) (hb : Below w.heap.size w w') : TwoRt wr b b' p p' x y l l' w' :=
  ⟨h.1.below hb h.2.2.2.2.2.1, h.2.1.below hb h.2.2.2.2.2.2, (h.2.2.1.below hb).more hb.size, (h.2.2.2.1.below hb).more hb.size, h.2.2.2.2.1.trans (hb.mono h.2.2.2.2.1.size), Nat.lt_of_lt_of_le h.2.2.2.2.2.1 hb.size, Nat.lt_of_lt_of_le h.2.2.2.2.2.2 hb.size⟩
/-- .. cell by cell, as the walk of a region asks it. -/
abbrev FlatRt (wr : World) (b b' p p' : Nat) (x y : Rt) (l l' : RtLay) (w : World) : Prop := (w.cell? ⟨b, p, none⟩ = some (.string x.name_) ∧ w.cell? ⟨b, p + 1, none⟩ = some (.slice l.A1 l.n1 l.c1)) ∧ (w.cell? ⟨b', p', none⟩ = some (.string y.name_) ∧ w.cell? ⟨b', p' + 1, none⟩ = some (.slice l'.A1 l'.n1 l'.c1)) ∧ TwoRt wr b b' p p' x y l l' w
theorem TwoRt.flat {wr w : World} {b b' p p' : Nat} {x y : Rt} {l l' : RtLay} (h : TwoRt wr b b' p p' x y l l' w) : FlatRt wr b b' p p' x y l l' w := ⟨h.1, h.2.1, h⟩
theorem TwoRt.drew {wr : World} {b b' p p' : Nat} {x y : Rt} {l l' : RtLay} (h : TwoRt wr b b' p p' x y l l' wr) : TwoRt wr b b' p p' x y l l' wr.drew := h.grow (Below.refl _ _).drew

set_option maxHeartbeats 1000000 in
set_option maxRecDepth 100000 in
theorem eqRecordTypeS_same (A A' : Option Addr) (n c c' : Nat) (xs : List Rt) (W : World) (ha : RtI W W.heap.size A n xs) (hb : RtI W W.heap.size A' n xs) :
    Calls Tryz.prog 94 #[.slice A n c, .slice A' n c'] W fun e w' => e = .returned (.bool true) ∧ Below W.heap.size W w' := by
  have HA := Lib.hid ha
  have HB := Lib.hid hb
  have hn := ha.2.1
  unfold maxLen at hn
  clear ha hb
  go_enter Tryz.func94, Tryz.ntmps94
  go_wp2
  go_loopw [5] (fun i wr => ∃ k : Nat, k ≤ n ∧ i = .int .i64 k ∧ Hid (Below W.heap.size W wr)) (fun i _ => n - (intOf i).toNat)
  case atStart => exact ⟨0, Nat.zero_le _, rfl, Below.refl _ _⟩
  case round =>
    obtain ⟨k, hk, rfl, HW⟩ := hrel
    by_cases hlt : k < n
    · obtain ⟨b, off, x, l, rfl, hg, hx, h1, hv1⟩ := (HA.out.go HW.out).at_ hlt
      obtain ⟨b', off', x', l', rfl, hg', hx', h2, hv2⟩ := (HB.out.go HW.out).at_ hlt
      obtain rfl : x = x' := Option.some.inj (hx.symm.trans hx')
      have H0 := Lib.hid (show TwoRt wr b b' (off + k * 2) (off' + k * 2) x x l l' wr from ⟨h1, h2, hv1, hv2, Below.refl _ _, hg, hg'⟩)
      have b0 : (0 : Int) ≤ (k : Int) := by omega
      have b1 : (k : Int) < (n : Int) := by omega
      clear h1 h2 hv1 hv2 hx hx' hg hg'
      go_wp2_with fail
      go_region_held3 (fun w' => FlatRt wr b b' (off + k * 2) (off' + k * 2) x x l l' w')
        (first | exact H0.out.drew.flat | exact (TwoRt.grow H0.out.drew hb).flat | go_keep)
        ((go_at_call 129; have HS := H0.out.drew; have HQ := eqRecordType_same x l l' _ HS.2.2.1 HS.2.2.2.1; refine Calls.mono HQ ?_; clear HQ; rintro e w1 ⟨rfl, hb⟩))
      go_wp2_with fail
      go_split_ands
      have h2 : TwoRt wr b b' (off + k * 2) (off' + k * 2) x x l l' _ := ‹_›
      go_roundw
      case rel => exact ⟨k + 1, by omega, by go_num, HW.out.trans (h2.2.2.2.2.1.mono HW.out.size)⟩
      case measure => simp [intOf]; omega
    · go_wp2_with fail
      go_ret
      exact ⟨rfl, HW.out⟩
end Go.Proofs.YtfcpdjfckeoniaaGreatDoor

namespace Go.Proofs.YtfcpdjfckeoniaaGreatDoor
open Go Go.RowKit

structure Sc where
  vars_ : List Bd
  functions_ : List Fn
  types_ : List Rt
/-- Where its lists lie. -/
structure ScLay where
  A0 : Option Addr
  n0 : Nat
  c0 : Nat
  h0 : n0 ≤ c0
  A1 : Option Addr
  n1 : Nat
  c1 : Nat
  h1 : n1 ≤ c1
  A2 : Option Addr
  n2 : Nat
  c2 : Nat
  h2 : n2 ≤ c2
/-- As one value. -/
abbrev Sc.ag (x : Sc) (l : ScLay) : Value := .agg #[.slice l.A0 l.n0 l.c0, .slice l.A1 l.n1 l.c1, .slice l.A2 l.n2 l.c2]
def Sc.vs (x : Sc) (l : ScLay) : List Value := [.slice l.A0 l.n0 l.c0, .slice l.A1 l.n1 l.c1, .slice l.A2 l.n2 l.c2]
/-- Its lists lie below B. -/
def ScV (w : World) (B : Nat) (x : Sc) (l : ScLay) : Prop := BdI w B l.A0 l.n0 x.vars_ ∧ FnI w B l.A1 l.n1 x.functions_ ∧ RtI w B l.A2 l.n2 x.types_
theorem ScV.below {w w' : World} {B : Nat} {x : Sc} {l : ScLay} (h : ScV w B x l) (hb : Below B w w') : ScV w' B x l := by
  obtain ⟨h0, h1, h2⟩ := h
  exact ⟨h0.below hb, h1.below hb, h2.below hb⟩
theorem ScV.more {w : World} {B B' : Nat} {x : Sc} {l : ScLay} (h : ScV w B x l) (hB : B ≤ B') : ScV w B' x l := by
  obtain ⟨h0, h1, h2⟩ := h
  exact ⟨h0.more hB, h1.more hB, h2.more hB⟩
theorem ScV.go {W w : World} {x : Sc} {l : ScLay} (h : ScV W W.heap.size x l) (hb : Below W.heap.size W w) : ScV w w.heap.size x l := (h.below hb).more hb.size
theorem ScV.alloc {W : World} {x : Sc} {l : ScLay} (h : ScV W W.heap.size x l) (o : Obj) : ScV (W.alloc o) (W.alloc o).heap.size x l := h.go (below_alloc W o)
/-- Its cells from p on of block b. -/
def ScAt (w : World) (b p : Nat) (x : Sc) (l : ScLay) : Prop := w.cell? ⟨b, p, none⟩ = some (.slice l.A0 l.n0 l.c0) ∧ w.cell? ⟨b, p + 1, none⟩ = some (.slice l.A1 l.n1 l.c1) ∧ w.cell? ⟨b, p + 2, none⟩ = some (.slice l.A2 l.n2 l.c2)
theorem ScAt.below {w w' : World} {b p B : Nat} {x : Sc} {l : ScLay} (h : ScAt w b p x l) (hb : Below B w w') (hg : b < B) : ScAt w' b p x l := by
  obtain ⟨h0, h1, h2⟩ := h
  exact ⟨(hb.cell (p := ⟨b, p, none⟩) hg).trans h0, (hb.cell (p := ⟨b, p + 1, none⟩) hg).trans h1, (hb.cell (p := ⟨b, p + 2, none⟩) hg).trans h2⟩
theorem ScAt.range {w : World} {b p : Nat} {x : Sc} {l : ScLay} (h : ScAt w b p x l) : w.rangeAt b p (x.vs l) := by
  obtain ⟨h0, h1, h2⟩ := h
  intro j v hj
  match j, hj with
  | 0, hj => cases hj; exact h0
  | 1, hj => cases hj; exact h1
  | 2, hj => cases hj; exact h2
  | j + 3, hj => simp [Sc.vs] at hj
/-- A slice of them that lies below B, with their lists. -/
def ScI (w : World) (B : Nat) (A : Option Addr) (n : Nat) (xs : List Sc) : Prop :=
  xs.length = n ∧ n ≤ maxLen ∧ (0 < n → ∃ b off, A = some ⟨b, off, none⟩ ∧ b < B ∧ ∀ (j : Nat) (x : Sc), xs[j]? = some x → ∃ l, ScAt w b (off + j * 3) x l ∧ ScV w B x l)
theorem ScI.below {w w' : World} {B n : Nat} {A : Option Addr} {xs : List Sc} (h : ScI w B A n xs) (hb : Below B w w') : ScI w' B A n xs :=
  ⟨h.1, h.2.1, fun hn => by
    obtain ⟨b, off, e, hg, hc⟩ := h.2.2 hn
    refine ⟨b, off, e, hg, fun j x hx => ?_⟩
    obtain ⟨l, h1, h2⟩ := hc j x hx
    exact ⟨l, h1.below hb hg, h2.below hb⟩⟩
theorem ScI.more {w : World} {B B' n : Nat} {A : Option Addr} {xs : List Sc} (h : ScI w B A n xs) (hB : B ≤ B') : ScI w B' A n xs :=
  ⟨h.1, h.2.1, fun hn => by
    obtain ⟨b, off, e, hg, hc⟩ := h.2.2 hn
    refine ⟨b, off, e, by omega, fun j x hx => ?_⟩
    obtain ⟨l, h1, h2⟩ := hc j x hx
    exact ⟨l, h1, h2.more hB⟩⟩
theorem ScI.at_ {w : World} {B n k : Nat} {A : Option Addr} {xs : List Sc} (h : ScI w B A n xs) (hk : k < n) : ∃ b off x l, A = some ⟨b, off, none⟩ ∧ b < B ∧ xs[k]? = some x ∧ ScAt w b (off + k * 3) x l ∧ ScV w B x l := by
  obtain ⟨b, off, e, hg, hc⟩ := h.2.2 (by omega)
  have hl : k < xs.length := by rw [h.1]; exact hk
  obtain ⟨l, h1, h2⟩ := hc k _ (List.getElem?_eq_getElem hl)
  exact ⟨b, off, xs[k], l, e, hg, List.getElem?_eq_getElem hl, h1, h2⟩
theorem ScI.go {W w : World} {A : Option Addr} {n : Nat} {xs : List Sc} (h : ScI W W.heap.size A n xs) (hb : Below W.heap.size W w) : ScI w w.heap.size A n xs := (h.below hb).more hb.size
theorem ScI.alloc {W : World} {A : Option Addr} {n : Nat} {xs : List Sc} (h : ScI W W.heap.size A n xs) (o : Obj) : ScI (W.alloc o) (W.alloc o).heap.size A n xs := h.go (below_alloc W o)

section
variable {H : Type} {enc : TypeId × Value → H} {W : World} {base : Nat} {held : Bool}
set_option maxRecDepth 100000 in
/-- Its cells, each with its own reading. -/
theorem open_ScN {fuel : Nat} {cs : List Value} {x : DataW H × List MemPlace} (h : DataW.trod enc Tryz.prog W base (fun _ => true) held fuel 48 cs = some x) :
    ∃ x l, cs = Sc.vs x l ∧ ScV W W.heap.size x l := by
  obtain ⟨ys, m, hm, _, hlen, _, hf⟩ := DataW.trod_struct Tryz.underlying48 h
  have hlen' : cs.length = 3 := hlen.trans (by kernel_rfl)
  match cs, hlen' with
  | [c0, c1, c2], _ =>
    have hys : ∀ i, i < 3 → ∃ y, ys[i]? = some y := by
      intro i hi
      have : ys.length = 3 := by assumption
      exact ⟨_, List.getElem?_eq_getElem (by omega)⟩
    have f0 : DataW.trod enc Tryz.prog W base (fun _ => true) held m 44 [c0] = ys[0]? := field_at (i := 0) (o := 0) (k := 1) (T := 44) hf (by kernel_rfl) (by kernel_rfl)
    obtain ⟨y0, g0⟩ := hys 0 (by decide)
    rw [g0] at f0
    have f1 : DataW.trod enc Tryz.prog W base (fun _ => true) held m 45 [c1] = ys[1]? := field_at (i := 1) (o := 1) (k := 1) (T := 45) hf (by kernel_rfl) (by kernel_rfl)
    obtain ⟨y1, g1⟩ := hys 1 (by decide)
    rw [g1] at f1
    have f2 : DataW.trod enc Tryz.prog W base (fun _ => true) held m 46 [c2] = ys[2]? := field_at (i := 2) (o := 2) (k := 1) (T := 46) hf (by kernel_rfl) (by kernel_rfl)
    obtain ⟨y2, g2⟩ := hys 2 (by decide)
    rw [g2] at f2
    obtain ⟨A0, n0, q0, hc0, e0⟩ := open_slice1 Tryz.underlying44 f0
    rw [e0] at f0
    obtain ⟨z0, hz0⟩ := open_BdF f0
    obtain ⟨A1, n1, q1, hc1, e1⟩ := open_slice1 Tryz.underlying45 f1
    rw [e1] at f1
    obtain ⟨z1, hz1⟩ := open_FnF f1
    obtain ⟨A2, n2, q2, hc2, e2⟩ := open_slice1 Tryz.underlying46 f2
    rw [e2] at f2
    obtain ⟨z2, hz2⟩ := open_RtF f2
    simp only [List.cons.injEq, and_true] at e0 e1 e2
    subst e0 e1 e2
    exact ⟨⟨z0, z1, z2⟩, ⟨A0, n0, q0, hc0, A1, n1, q1, hc1, A2, n2, q2, hc2⟩, rfl, hz0, hz1, hz2⟩
end
set_option maxRecDepth 100000 in
/-- An argument. -/
theorem open_Sc {H : Type} {enc : TypeId × Value → H} {W : World} {v : Value} {d : DataW H} {p : List MemPlace} {r : Reach} {b0 : Nat} (hv : Value.okWide Tryz.prog W r b0 48 v) (h : DataW.Trod enc Tryz.prog W 0 (fun _ => true) true 48 v d p) :
    ∃ x l, v = Sc.ag x l ∧ ScV W W.heap.size x l := by
  obtain ⟨cs, rfl, hsz⟩ := Go.WideShapes.okWide_struct Tryz.underlying48 hv
  obtain ⟨fuel, hf⟩ := h
  obtain ⟨x, l, e, ho⟩ := open_ScN hf
  refine ⟨x, l, ?_, ho⟩
  have : cs.toList = Sc.vs x l := e
  rw [show cs = (Sc.vs x l).toArray from by rw [← this]]
  rfl
/-- What szScope takes of the bound. -/
def szSc1 (x : Sc) : Nat := szBd x.vars_ + szFn x.functions_ + szRt x.types_

set_option maxHeartbeats 2000000 in
set_option maxRecDepth 100000 in
theorem szScope_any (x : Sc) (l : ScLay) (L : Int) (W : World) (ho : ScV W W.heap.size x l) (hLL : 0 ≤ L) (hL : L ≤ 1048576) :
    Calls Tryz.prog 36 #[x.ag l, .int .i64 L] W (SzL (szSc1 x) L W) := by
  obtain ⟨s, hs⟩ : ∃ s, szSc1 x = s := ⟨_, rfl⟩
  rw [hs]
  unfold szSc1 at hs
  obtain ⟨x0, x1, x2⟩ := x
  obtain ⟨A0, n0, c0, h0, A1, n1, c1, h1, A2, n2, c2, h2⟩ := l
  obtain ⟨k0, k1, k2⟩ := ho
  try unfold ScV at k0 k1 k2
  dsimp only at hs k0 k1 k2
  have HS := Lib.hid hs
  have HL0 := Lib.hid hLL
  have HL1 := Lib.hid hL
  have HK0 := Lib.hid k0
  have HK1 := Lib.hid k1
  have HK2 := Lib.hid k2
  have HC := Lib.hid (fun X (e : X = W.alloc (.cells #[.slice A0 n0 c0, .slice A1 n1 c1, .slice A2 n2 c2] 48)) => (show RW 48 X W.heap.size #[.slice A0 n0 c0, .slice A1 n1 c1, .slice A2 n2 c2] ∧ Below W.heap.size W X ∧ W.heap.size < X.heap.size from by rw [e]; exact ⟨RW.new _ _ _, below_alloc _ _, lt_alloc _ _⟩))
  clear hs k0 k1 k2
  show Calls Tryz.prog 36 #[.agg #[.slice A0 n0 c0, .slice A1 n1 c1, .slice A2 n2 c2], .int .i64 L] W _
  by_cases cc0 : (szBd x0 : Int) ≤ L
  · have C0 := Lib.hid cc0
    clear cc0
    by_cases cc1 : (szBd x0 : Int) + (szFn x1 : Int) ≤ L
    · have C1 := Lib.hid cc1
      clear cc1
      by_cases cc2 : (szBd x0 : Int) + (szFn x1 : Int) + (szRt x2 : Int) ≤ L
      · have C2 := Lib.hid cc2
        clear cc2
        go_enter Tryz.func36, Tryz.ntmps36
        go_wp2_with (go_at_call 71; obtain ⟨g0, g1, g2⟩ := HC.out _ rfl; have HQ := szBindingS_any A0 n0 c0 x0 (L) _ (HK0.out.go g1) HL0.out HL1.out; refine Calls.mono HQ ?_; clear HQ; intro e w1 h; obtain ⟨z0, rfl, hz0, l0, u0, hb⟩ := h.fits (by have := C0.out; omega) HL1.out; have Z0 := Lib.hid hz0; have d0 : decide (z0 < 0) = false := (by simp; omega); have HR1 := Lib.hid (g0.below hb g2); have HB1 := Lib.hid (g1.trans (hb.mono g1.size)); have HG1 := Lib.hid (Nat.lt_of_lt_of_le g2 hb.size); have q01 : w1.cell? ⟨W.heap.size, 1, none⟩ = some (.slice A1 n1 c1) := HR1.out.cell 1; clear hb hz0 g0 g1 g2 HK0)
        go_wp2_with (go_at_call 72; have HQ := szFunctionS_any A1 n1 c1 x1 (z0) _ (HK1.out.go HB1.out) (by have := C0.out; have := Z0.out; have := HL0.out; omega) (by have := C0.out; have := Z0.out; have := HL1.out; omega); refine Calls.mono HQ ?_; clear HQ; intro e w2 h; obtain ⟨z1, rfl, hz1, l1, u1, hb⟩ := h.fits (by have := C0.out; have := C1.out; have := Z0.out; omega) (by have := C0.out; have := Z0.out; have := HL1.out; omega); have Z1 := Lib.hid hz1; have d1 : decide (z1 < 0) = false := (by simp; omega); have HR2 := Lib.hid (HR1.out.below hb HG1.out); have HB2 := Lib.hid (HB1.out.trans (hb.mono HB1.out.size)); have HG2 := Lib.hid (Nat.lt_of_lt_of_le HG1.out hb.size); have q12 : w2.cell? ⟨W.heap.size, 2, none⟩ = some (.slice A2 n2 c2) := HR2.out.cell 2; clear hb hz1  HK1)
        go_wp2_with (go_at_call 73; have HQ := szRecordTypeS_any A2 n2 c2 x2 (z1) _ (HK2.out.go HB2.out) (by have := C0.out; have := C1.out; have := Z0.out; have := Z1.out; have := HL0.out; omega) (by have := C0.out; have := C1.out; have := Z0.out; have := Z1.out; have := HL1.out; omega); refine Calls.mono HQ ?_; clear HQ; intro e w3 h; obtain ⟨z2, rfl, hz2, l2, u2, hb⟩ := h.fits (by have := C0.out; have := C1.out; have := C2.out; have := Z0.out; have := Z1.out; omega) (by have := C0.out; have := C1.out; have := Z0.out; have := Z1.out; have := HL1.out; omega); have Z2 := Lib.hid hz2; have d2 : decide (z2 < 0) = false := (by simp; omega); have HR3 := Lib.hid (HR2.out.below hb HG2.out); have HB3 := Lib.hid (HB2.out.trans (hb.mono HB2.out.size)); have HG3 := Lib.hid (Nat.lt_of_lt_of_le HG2.out hb.size); clear hb hz2  HK2)
        go_ret
        refine ⟨.inl ⟨by have := C0.out; have := C1.out; have := C2.out; have := Z0.out; have := Z1.out; have := Z2.out; have := HS.out; omega, ?_⟩, HB3.out⟩
        have hx : z2 = L - (s : Int) := by have := C0.out; have := C1.out; have := C2.out; have := Z0.out; have := Z1.out; have := Z2.out; have := HS.out; omega
        rw [← hx]
        rfl
      · have C2 := Lib.hid cc2
        clear cc2
        go_enter Tryz.func36, Tryz.ntmps36
        go_wp2_with (go_at_call 71; obtain ⟨g0, g1, g2⟩ := HC.out _ rfl; have HQ := szBindingS_any A0 n0 c0 x0 (L) _ (HK0.out.go g1) HL0.out HL1.out; refine Calls.mono HQ ?_; clear HQ; intro e w1 h; obtain ⟨z0, rfl, hz0, l0, u0, hb⟩ := h.fits (by have := C0.out; omega) HL1.out; have Z0 := Lib.hid hz0; have d0 : decide (z0 < 0) = false := (by simp; omega); have HR1 := Lib.hid (g0.below hb g2); have HB1 := Lib.hid (g1.trans (hb.mono g1.size)); have HG1 := Lib.hid (Nat.lt_of_lt_of_le g2 hb.size); have q01 : w1.cell? ⟨W.heap.size, 1, none⟩ = some (.slice A1 n1 c1) := HR1.out.cell 1; clear hb hz0 g0 g1 g2 HK0)
        go_wp2_with (go_at_call 72; have HQ := szFunctionS_any A1 n1 c1 x1 (z0) _ (HK1.out.go HB1.out) (by have := C0.out; have := Z0.out; have := HL0.out; omega) (by have := C0.out; have := Z0.out; have := HL1.out; omega); refine Calls.mono HQ ?_; clear HQ; intro e w2 h; obtain ⟨z1, rfl, hz1, l1, u1, hb⟩ := h.fits (by have := C0.out; have := C1.out; have := Z0.out; omega) (by have := C0.out; have := Z0.out; have := HL1.out; omega); have Z1 := Lib.hid hz1; have d1 : decide (z1 < 0) = false := (by simp; omega); have HR2 := Lib.hid (HR1.out.below hb HG1.out); have HB2 := Lib.hid (HB1.out.trans (hb.mono HB1.out.size)); have HG2 := Lib.hid (Nat.lt_of_lt_of_le HG1.out hb.size); have q12 : w2.cell? ⟨W.heap.size, 2, none⟩ = some (.slice A2 n2 c2) := HR2.out.cell 2; clear hb hz1  HK1)
        go_wp2_with (go_at_call 73; have HQ := szRecordTypeS_any A2 n2 c2 x2 (z1) _ (HK2.out.go HB2.out) (by have := C0.out; have := C1.out; have := Z0.out; have := Z1.out; have := HL0.out; omega) (by have := C0.out; have := C1.out; have := Z0.out; have := Z1.out; have := HL1.out; omega); refine Calls.mono HQ ?_; clear HQ; intro e w3 h; obtain ⟨rfl, hb⟩ := h.long (by have := C0.out; have := C1.out; have := C2.out; have := Z0.out; have := Z1.out; omega); have HR3 := Lib.hid (HR2.out.below hb HG2.out); have HB3 := Lib.hid (HB2.out.trans (hb.mono HB2.out.size)); have HG3 := Lib.hid (Nat.lt_of_lt_of_le HG2.out hb.size); clear hb  HK2)
        go_ret
        exact ⟨.inr ⟨by have := C0.out; have := C1.out; have := C2.out; have := Z0.out; have := Z1.out; have := HS.out; omega, rfl⟩, HB3.out⟩
    · have C1 := Lib.hid cc1
      clear cc1
      go_enter Tryz.func36, Tryz.ntmps36
      go_wp2_with (go_at_call 71; obtain ⟨g0, g1, g2⟩ := HC.out _ rfl; have HQ := szBindingS_any A0 n0 c0 x0 (L) _ (HK0.out.go g1) HL0.out HL1.out; refine Calls.mono HQ ?_; clear HQ; intro e w1 h; obtain ⟨z0, rfl, hz0, l0, u0, hb⟩ := h.fits (by have := C0.out; omega) HL1.out; have Z0 := Lib.hid hz0; have d0 : decide (z0 < 0) = false := (by simp; omega); have HR1 := Lib.hid (g0.below hb g2); have HB1 := Lib.hid (g1.trans (hb.mono g1.size)); have HG1 := Lib.hid (Nat.lt_of_lt_of_le g2 hb.size); have q01 : w1.cell? ⟨W.heap.size, 1, none⟩ = some (.slice A1 n1 c1) := HR1.out.cell 1; clear hb hz0 g0 g1 g2 HK0)
      go_wp2_with (go_at_call 72; have HQ := szFunctionS_any A1 n1 c1 x1 (z0) _ (HK1.out.go HB1.out) (by have := C0.out; have := Z0.out; have := HL0.out; omega) (by have := C0.out; have := Z0.out; have := HL1.out; omega); refine Calls.mono HQ ?_; clear HQ; intro e w2 h; obtain ⟨rfl, hb⟩ := h.long (by have := C0.out; have := C1.out; have := Z0.out; omega); have HR2 := Lib.hid (HR1.out.below hb HG1.out); have HB2 := Lib.hid (HB1.out.trans (hb.mono HB1.out.size)); have HG2 := Lib.hid (Nat.lt_of_lt_of_le HG1.out hb.size); clear hb  HK1)
      go_ret
      exact ⟨.inr ⟨by have := C0.out; have := C1.out; have := Z0.out; have := HS.out; omega, rfl⟩, HB2.out⟩
  · have C0 := Lib.hid cc0
    clear cc0
    go_enter Tryz.func36, Tryz.ntmps36
    go_wp2_with (go_at_call 71; obtain ⟨g0, g1, g2⟩ := HC.out _ rfl; have HQ := szBindingS_any A0 n0 c0 x0 (L) _ (HK0.out.go g1) HL0.out HL1.out; refine Calls.mono HQ ?_; clear HQ; intro e w1 h; obtain ⟨rfl, hb⟩ := h.long (by have := C0.out; omega); have HR1 := Lib.hid (g0.below hb g2); have HB1 := Lib.hid (g1.trans (hb.mono g1.size)); have HG1 := Lib.hid (Nat.lt_of_lt_of_le g2 hb.size); clear hb g0 g1 g2 HK0)
    go_ret
    exact ⟨.inr ⟨by have := C0.out; have := HS.out; omega, rfl⟩, HB1.out⟩

/-- Those of the first k. -/
def sumSc (xs : List Sc) : Nat → Nat
  | 0 => 0
  | k + 1 => sumSc xs k + ((xs[k]?.map szSc1).getD 0)
theorem sumSc_next {xs : List Sc} {k : Nat} {x : Sc} (h : xs[k]? = some x) : sumSc xs (k + 1) = sumSc xs k + szSc1 x := by
  rw [sumSc, h]
  rfl
theorem sumSc_mono {xs : List Sc} {j : Nat} : ∀ {k : Nat}, j ≤ k → sumSc xs j ≤ sumSc xs k
  | 0, h => by obtain rfl : j = 0 := by omega
               exact Nat.le_refl _
  | k + 1, h => by
    by_cases e : j = k + 1
    · rw [e]; exact Nat.le_refl _
    · have := sumSc_mono (xs := xs) (show j ≤ k by omega)
      rw [sumSc]
      omega
def szSc (xs : List Sc) : Nat := xs.length + sumSc xs xs.length

/-- No list is too long. -/
def ScSmall (x : Sc) : Prop := x.vars_.length ≤ 1048576 ∧ ((∀ (j : Nat) (y : Fn), x.functions_[j]? = some y → FnSmall y) ∧ x.functions_.length ≤ 1048576) ∧ ((∀ (j : Nat) (y : Rt), x.types_[j]? = some y → RtSmall y) ∧ x.types_.length ≤ 1048576)
theorem small_Sc1 {x : Sc} (h : (szSc1 x : Int) ≤ 1048576) : ScSmall x := by
  unfold szSc1 at h
  unfold ScSmall
  exact ⟨(by unfold szBd at h; omega), (small_Fn (by omega)), (small_Rt (by omega))⟩
theorem small_Sc {xs : List Sc} (h : (szSc xs : Int) ≤ 1048576) : (∀ (j : Nat) (x : Sc), xs[j]? = some x → ScSmall x) ∧ xs.length ≤ 1048576 := by
  unfold szSc at h
  refine ⟨fun j x hx => small_Sc1 ?_, by omega⟩
  have hl := (List.getElem?_eq_some_iff.1 hx).1
  have h1 := sumSc_mono (xs := xs) (j := j + 1) (k := xs.length) (by omega)
  rw [sumSc_next hx] at h1
  omega
end Go.Proofs.YtfcpdjfckeoniaaGreatDoor
