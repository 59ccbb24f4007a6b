/- Trees of Pattern: as plain data and in memory; opening an argument. No condition. -/
import Derived.Test.YtbaadphgbhaboaaRw
namespace Go.Proofs.Ytbaadphgbhaboaa
open Go Go.RowKit

/-- A tree. -/
inductive Pt where
  | node (k n : Int) (t : ByteArray) (kids : List Pt)
def Pt.k : Pt → Int | .node k _ _ _ => k
def Pt.n : Pt → Int | .node _ n _ _ => n
def Pt.t : Pt → ByteArray | .node _ _ t _ => t
def Pt.kids : Pt → List Pt | .node _ _ _ ks => ks
/-- As one value, its Kids at A. -/
abbrev Pt.ag (x : Pt) (A : Option Addr) (n c : Nat) : Value := .agg #[.int .i64 x.k, .int .i64 x.n, .string x.t, .slice A n c]
def Pt.vs (x : Pt) (A : Option Addr) (n c : Nat) : List Value := [.int .i64 x.k, .int .i64 x.n, .string x.t, .slice A n c]
/-- Its cells from o on of block b. -/
def PtAt (w : World) (b o : Nat) (x : Pt) (A : Option Addr) (n c : Nat) : Prop :=
  w.cell? ⟨b, o, none⟩ = some (.int .i64 x.k) ∧ w.cell? ⟨b, o + 1, none⟩ = some (.int .i64 x.n) ∧ w.cell? ⟨b, o + 2, none⟩ = some (.string x.t) ∧ w.cell? ⟨b, o + 3, none⟩ = some (.slice A n c)
theorem PtAt.below {w w' : World} {b o B : Nat} {x : Pt} {A : Option Addr} {n c : Nat} (h : PtAt w b o x A n c) (hb : Below B w w') (hg : b < B) : PtAt w' b o x A n c := by
  obtain ⟨h0, h1, h2, h3⟩ := h
  exact ⟨(hb.cell (p := ⟨b, o, none⟩) hg).trans h0, (hb.cell (p := ⟨b, o + 1, none⟩) hg).trans h1, (hb.cell (p := ⟨b, o + 2, none⟩) hg).trans h2, (hb.cell (p := ⟨b, o + 3, none⟩) hg).trans h3⟩
theorem PtAt.other {w : World} {b o : Nat} {x : Pt} {A : Option Addr} {n c : Nat} (h : PtAt w b o x A n c) {q : Addr} (hp : b ≠ q.block) (u : Value) : PtAt (w.setCell q u) b o x A n c := by
  have k : ∀ i, (w.setCell q u).cell? ⟨b, i, none⟩ = w.cell? ⟨b, i, none⟩ := fun i => World.cell?_setCell_other w q ⟨b, i, none⟩ u (fun e => hp (by rw [e]))
  obtain ⟨h0, h1, h2, h3⟩ := h
  exact ⟨(k _).trans h0, (k _).trans h1, (k _).trans h2, (k _).trans h3⟩
/-- A slice of trees of depth at most d, whose blocks lie from lo up to B. -/
def PtD (w : World) (lo B : Nat) : Nat → Option Addr → Nat → List Pt → Prop
  | 0, _, n, xs => xs = [] ∧ n = 0
  | d + 1, A, n, xs => xs.length = n ∧ n ≤ maxLen ∧ (0 < n → ∃ b off, A = some ⟨b, off, none⟩ ∧ lo ≤ b ∧ b < B ∧
      ∀ (j : Nat) (x : Pt), xs[j]? = some x → ∃ (A' : Option Addr) (n' c' : Nat), n' ≤ c' ∧ PtAt w b (off + j * 4) x A' n' c' ∧ x.t.size ≤ maxLen ∧ PtD w lo B d A' n' x.kids)
/-- One tree, its Kids at A. -/
def PtV (w : World) (lo B d : Nat) (x : Pt) (A : Option Addr) (n : Nat) : Prop := x.t.size ≤ maxLen ∧ PtD w lo B d A n x.kids
theorem PtD.len {w : World} {lo B : Nat} : ∀ {d : Nat} {A : Option Addr} {n : Nat} {xs : List Pt}, PtD w lo B d A n xs → xs.length = n ∧ n ≤ maxLen
  | 0, _, _, _, h => by obtain ⟨rfl, rfl⟩ := h; exact ⟨rfl, Nat.zero_le _⟩
  | _ + 1, _, _, _, h => ⟨h.1, h.2.1⟩
theorem PtD.below {w w' : World} {lo B : Nat} (hb : Below B w w') : ∀ {d : Nat} {A : Option Addr} {n : Nat} {xs : List Pt}, PtD w lo B d A n xs → PtD w' lo B d A n xs
  | 0, _, _, _, h => h
  | d + 1, A, n, xs, h => ⟨h.1, h.2.1, fun hn => by
    obtain ⟨b, off, e, hl, hg, hc⟩ := h.2.2 hn
    refine ⟨b, off, e, hl, hg, fun j x hx => ?_⟩
    obtain ⟨A', n', c', h1, h2, h3, h4⟩ := hc j x hx
    exact ⟨A', n', c', h1, h2.below hb hg, h3, PtD.below hb h4⟩⟩
theorem PtD.more {w : World} {lo B lo' B' : Nat} (hl : lo' ≤ lo) (hB : B ≤ B') : ∀ {d : Nat} {A : Option Addr} {n : Nat} {xs : List Pt}, PtD w lo B d A n xs → PtD w lo' B' d A n xs
  | 0, _, _, _, h => h
  | d + 1, A, n, xs, h => ⟨h.1, h.2.1, fun hn => by
    obtain ⟨b, off, e, h0, hg, hc⟩ := h.2.2 hn
    refine ⟨b, off, e, by omega, by omega, fun j x hx => ?_⟩
    obtain ⟨A', n', c', h1, h2, h3, h4⟩ := hc j x hx
    exact ⟨A', n', c', h1, h2, h3, PtD.more hl hB h4⟩⟩
theorem PtD.other {w : World} {lo B : Nat} {q : Addr} (hp : q.block < lo ∨ B ≤ q.block) (u : Value) : ∀ {d : Nat} {A : Option Addr} {n : Nat} {xs : List Pt}, PtD w lo B d A n xs → PtD (w.setCell q u) lo B d A n xs
  | 0, _, _, _, h => h
  | d + 1, A, n, xs, h => ⟨h.1, h.2.1, fun hn => by
    obtain ⟨b, off, e, h0, hg, hc⟩ := h.2.2 hn
    refine ⟨b, off, e, h0, hg, fun j x hx => ?_⟩
    obtain ⟨A', n', c', h1, h2, h3, h4⟩ := hc j x hx
    exact ⟨A', n', c', h1, h2.other (by omega) u, h3, PtD.other hp u h4⟩⟩
theorem PtD.others {lo B d n g : Nat} {A : Option Addr} {xs : List Pt} (hp : g < lo ∨ B ≤ g) : ∀ {vs : List Value} {w : World} {o : Nat}, PtD w lo B d A n xs → PtD (w.setCells g o vs) lo B d A n xs
  | [], _, _, h => h
  | v :: r, w, o, h => PtD.others hp (vs := r) (h.other (q := ⟨g, o, none⟩) hp v)
theorem PtD.go {W w : World} {lo d n : Nat} {A : Option Addr} {xs : List Pt} (h : PtD W lo W.heap.size d A n xs) (hb : Below W.heap.size W w) : PtD w lo w.heap.size d A n xs := (h.below hb).more (Nat.le_refl _) hb.size
theorem PtD.zero {w : World} {lo B d n : Nat} {A : Option Addr} {xs : List Pt} (h : PtD w lo B d A n xs) : PtD w 0 B d A n xs := h.more (Nat.zero_le _) (Nat.le_refl _)
theorem PtD.at_ {w : World} {lo B d n k : Nat} {A : Option Addr} {xs : List Pt} (h : PtD w lo B (d + 1) A n xs) (hk : k < n) :
    ∃ (b off : Nat) (x : Pt) (A' : Option Addr) (n' c' : Nat), A = some ⟨b, off, none⟩ ∧ lo ≤ b ∧ b < B ∧ xs[k]? = some x ∧ n' ≤ c' ∧ PtAt w b (off + k * 4) x A' n' c' ∧ x.t.size ≤ maxLen ∧ PtD w lo B d A' n' x.kids := by
  obtain ⟨b, off, e, hl, hg, hc⟩ := h.2.2 (by omega)
  have hlt : k < xs.length := by rw [h.1]; exact hk
  obtain ⟨A', n', c', h1, h2, h3, h4⟩ := hc k _ (List.getElem?_eq_getElem hlt)
  exact ⟨b, off, xs[k], A', n', c', e, hl, hg, List.getElem?_eq_getElem hlt, h1, h2, h3, h4⟩
theorem PtD.deeper {w : World} {lo B : Nat} : ∀ {d : Nat} {A : Option Addr} {n : Nat} {xs : List Pt}, PtD w lo B d A n xs → PtD w lo B (d + 1) A n xs
  | 0, _, _, _, h => by obtain ⟨rfl, rfl⟩ := h; exact ⟨rfl, Nat.zero_le _, fun h => absurd h (by omega)⟩
  | d + 1, A, n, xs, h => ⟨h.1, h.2.1, fun hn => by
    obtain ⟨b, off, e, h0, hg, hc⟩ := h.2.2 hn
    refine ⟨b, off, e, h0, hg, fun j x hx => ?_⟩
    obtain ⟨A', n', c', h1, h2, h3, h4⟩ := hc j x hx
    exact ⟨A', n', c', h1, h2, h3, PtD.deeper h4⟩⟩
theorem PtV.go {W w : World} {lo d n : Nat} {A : Option Addr} {x : Pt} (h : PtV W lo W.heap.size d x A n) (hb : Below W.heap.size W w) : PtV w lo w.heap.size d x A n := ⟨h.1, h.2.go hb⟩
theorem PtV.alloc {W : World} {lo d n : Nat} {A : Option Addr} {x : Pt} (h : PtV W lo W.heap.size d x A n) (o : Obj) : PtV (W.alloc o) lo (W.alloc o).heap.size d x A n := h.go (below_alloc W o)
theorem PtV.zero {w : World} {lo B d n : Nat} {A : Option Addr} {x : Pt} (h : PtV w lo B d x A n) : PtV w 0 B d x A n := ⟨h.1, h.2.zero⟩
theorem PtAt.range {w : World} {b o : Nat} {x : Pt} {A : Option Addr} {n c : Nat} (h : PtAt w b o x A n c) : w.rangeAt b o (x.vs A n c) := by
  obtain ⟨h0, h1, h2, h3⟩ := h
  intro j v hj
  match j, hj with
  | 0, hj => cases hj; exact h0
  | 1, hj => cases hj; exact h1
  | 2, hj => cases hj; exact h2
  | 3, hj => cases hj; exact h3
  | j + 4, hj => simp [Pt.vs] at hj

section
variable {H : Type} {enc : TypeId × Value → H} {W : World} {base : Nat} {held : Bool}
set_option maxRecDepth 100000 in
/-- A tree's cells, each with its own reading; the Kids opened by 'ih'. -/
theorem open_PtN {fuel d : Nat} {cs : List Value} {x : DataW H × List MemPlace} (ih : ∀ (m : Nat) (A : Option Addr) (n c : Nat) (y : DataW H × List MemPlace), fuel = m + 1 → DataW.trod enc Try.prog W base (fun _ => true) held m 22 [.slice A n c] = some y → ∃ xs, PtD W 0 W.heap.size d A n xs)
    (h : DataW.trod enc Try.prog W base (fun _ => true) held fuel 24 cs = some x) :
    ∃ x A n c, n ≤ c ∧ cs = Pt.vs x A n c ∧ PtV W 0 W.heap.size d x A n := by
  obtain ⟨ys, m, hm, _, hlen, _, hf⟩ := DataW.trod_struct Try.underlying24 h
  have hlen' : cs.length = 4 := hlen.trans (by kernel_rfl)
  match cs, hlen' with
  | [c0, c1, c2, c3], _ =>
    have hys : ∀ i, i < 4 → ∃ y, ys[i]? = some y := by
      intro i hi
      have : ys.length = 4 := by assumption
      exact ⟨_, List.getElem?_eq_getElem (by omega)⟩
    have f0 : DataW.trod enc Try.prog W base (fun _ => true) held m 2 [c0] = ys[0]? := field_at (i := 0) (o := 0) (k := 1) (T := 2) hf (by kernel_rfl) (by kernel_rfl)
    have f1 : DataW.trod enc Try.prog W base (fun _ => true) held m 2 [c1] = ys[1]? := field_at (i := 1) (o := 1) (k := 1) (T := 2) hf (by kernel_rfl) (by kernel_rfl)
    have f2 : DataW.trod enc Try.prog W base (fun _ => true) held m 9 [c2] = ys[2]? := field_at (i := 2) (o := 2) (k := 1) (T := 9) hf (by kernel_rfl) (by kernel_rfl)
    have f3 : DataW.trod enc Try.prog W base (fun _ => true) held m 22 [c3] = ys[3]? := field_at (i := 3) (o := 3) (k := 1) (T := 22) hf (by kernel_rfl) (by kernel_rfl)
    obtain ⟨y0, g0⟩ := hys 0 (by decide)
    obtain ⟨y1, g1⟩ := hys 1 (by decide)
    obtain ⟨y2, g2⟩ := hys 2 (by decide)
    obtain ⟨y3, g3⟩ := hys 3 (by decide)
    rw [g0] at f0
    rw [g1] at f1
    rw [g2] at f2
    rw [g3] at f3
    obtain ⟨z0, e0, _, _⟩ := DataW.trod_int Try.underlying2 f0
    obtain ⟨z1, e1, _, _⟩ := DataW.trod_int Try.underlying2 f1
    obtain ⟨z2, e2, _, hz2⟩ := DataW.trod_string Try.underlying9 f2
    obtain ⟨A, n, c, hc, e3⟩ := open_slice1 Try.underlying22 f3
    rw [e3] at f3
    obtain ⟨xs, hxs⟩ := ih m A n c _ hm f3
    simp only [List.cons.injEq, and_true] at e0 e1 e2 e3
    subst e0 e1 e2 e3
    exact ⟨.node z0 z1 z2 xs, A, n, c, hc, rfl, hz2, hxs⟩
theorem open_PtF : ∀ {fuel : Nat} {A : Option Addr} {n c : Nat} {x : DataW H × List MemPlace}, DataW.trod enc Try.prog W base (fun _ => true) held fuel 22 [.slice A n c] = some x → ∃ xs, PtD W 0 W.heap.size (fuel + 1) A n xs := by
  intro fuel
  induction fuel using Nat.strongRecOn with
  | _ fuel ih =>
    intro A n c x hf
    rcases DataW.trod_slice Try.underlying22 hf with ⟨h0, _⟩ | ⟨a, len, cap, elems, rest, m, hfm, hcs, _, hb, hl, hm, hlen, hel, _⟩
    · simp at h0
      obtain ⟨rfl, rfl, rfl⟩ := h0
      exact ⟨[], rfl, Nat.zero_le _, fun h => absurd h (by omega)⟩
    · simp only [List.cons.injEq, Value.slice.injEq, and_true] at hcs
      obtain ⟨rfl, rfl, rfl⟩ := hcs
      have hC : Try.prog.cellsOf 24 = 4 := by kernel_rfl
      have key : ∀ i, i < n → ∃ (x : Pt) (A' : Option Addr) (n' c' : Nat), n' ≤ c' ∧ (∀ j v, (Pt.vs x A' n' c')[j]? = some v → W.cell? (a.add (i * 4 + j)) = some v) ∧ PtV W 0 W.heap.size fuel x A' n' := by
        intro i hin
        have h1 := hel i hin
        rw [List.getElem?_eq_getElem (by omega), Option.bind_eq_some_iff] at h1
        obtain ⟨cs', hc, ht'⟩ := h1
        rw [hC] at hc
        have ih' : ∀ (q : Nat) (A : Option Addr) (n c : Nat) (y : DataW H × List MemPlace), m = q + 1 → DataW.trod enc Try.prog W base (fun _ => true) held q 22 [.slice A n c] = some y → ∃ xs, PtD W 0 W.heap.size (q + 1) A n xs := fun q A n c y hq hy => ih q (by omega) hy
        obtain ⟨x, A', n', c', hnc, e, ho⟩ : ∃ x A n c, n ≤ c ∧ cs' = Pt.vs x A n c ∧ PtV W 0 W.heap.size fuel x A n := by
          refine open_PtN (d := fuel) (fun q A n c y hq hy => ?_) ht'
          obtain ⟨xs, hxs⟩ := ih' q A n c y hq hy
          have : fuel = q + 1 + 1 := by omega
          rw [this]
          exact ⟨xs, PtD.deeper hxs⟩
        obtain ⟨_, hcl, hat⟩ := World.cells?_some hc
        refine ⟨x, A', n', c', hnc, fun j v hj => ?_, ho⟩
        rw [← e] at hj
        have hjl : j < 4 := by have := (List.getElem?_eq_some_iff.1 hj).1; omega
        rw [← Go.Deep.add_add, hat j hjl, hj]
      have hnm : n ≤ maxLen := Nat.le_trans hl hm
      by_cases hn : 0 < n
      · obtain ⟨ab, ao, spot⟩ := a
        obtain ⟨x0, A0, n0, c0, _, h0, _⟩ := key 0 hn
        have h00 := h0 0 _ rfl
        have hspot : spot = none := by simpa [Addr.add] using World.cell?_spot h00
        subst hspot
        rw [Addr.add_lit] at h00
        obtain ⟨xs, hl', hx'⟩ := list_of (α := Pt) (P := fun j x => ∃ (A' : Option Addr) (n' c' : Nat), n' ≤ c' ∧ PtAt W ab (ao + j * 4) x A' n' c' ∧ x.t.size ≤ maxLen ∧ PtD W 0 W.heap.size fuel A' n' x.kids) (n := n) fun i hin => by
          obtain ⟨x, A', n', c', hnc, hc, ho⟩ := key i hin
          have hc' : ∀ j v, (Pt.vs x A' n' c')[j]? = some v → W.cell? ⟨ab, ao + i * 4 + j, none⟩ = some v := by
            intro j v hj
            have := hc j v hj
            rw [Addr.add_lit, ← Nat.add_assoc] at this
            exact this
          exact ⟨x, A', n', c', hnc, ⟨hc' 0 _ rfl, hc' 1 _ rfl, hc' 2 _ rfl, hc' 3 _ rfl⟩, ho.1, ho.2⟩
        exact ⟨xs, hl', hnm, fun _ => ⟨ab, ao, rfl, Nat.zero_le _, World.block_lt_of_cell? W ⟨ab, _, none⟩ h00, hx'⟩⟩
      · exact ⟨[], by simp; omega, hnm, fun h => absurd h hn⟩
end
set_option maxRecDepth 100000 in
/-- An argument that is a tree. -/
theorem open_Pt {H : Type} {enc : TypeId × Value → H} {W : World} {v : Value} {d : DataW H} {p : List MemPlace} {r : Reach} {b0 : Nat} (hv : Value.okWide Try.prog W r b0 24 v) (h : DataW.Trod enc Try.prog W 0 (fun _ => true) true 24 v d p) :
    ∃ d x A n c, v = Pt.ag x A n c ∧ PtV W 0 W.heap.size d x A n := by
  obtain ⟨cs, rfl, hsz⟩ := Go.WideShapes.okWide_struct Try.underlying24 hv
  obtain ⟨fuel, hf⟩ := h
  obtain ⟨x, A, n, c, hnc, e, ho⟩ := open_PtN (d := fuel) (fun q A n c y hq hy => by
    obtain ⟨xs, hxs⟩ := open_PtF hy
    rw [hq]
    exact ⟨xs, hxs⟩) hf
  refine ⟨fuel, x, A, n, c, ?_, ho⟩
  have : cs.toList = Pt.vs x A n c := e
  rw [show cs = (Pt.vs x A n c).toArray from by rw [← this]]
  rfl
/-- An argument that is a slice of trees. -/
theorem open_PtS {H : Type} {enc : TypeId × Value → H} {W : World} {A : Option Addr} {n c : Nat} {d : DataW H} {p : List MemPlace} (h : DataW.Trod enc Try.prog W 0 (fun _ => true) true 22 (.slice A n c) d p) :
    ∃ d xs, PtD W 0 W.heap.size d A n xs := by
  obtain ⟨fuel, hf⟩ := h
  obtain ⟨xs, hxs⟩ := open_PtF (by simpa [Value.cells] using hf)
  exact ⟨_, xs, hxs⟩
end Go.Proofs.Ytbaadphgbhaboaa
