/- Trees of Gen: as plain data and in memory; opening an argument. No condition. -/
import Derived.Test.YtbaadphgbhaboaaRw
namespace Go.Proofs.Ytbaadphgbhaboaa
open Go Go.RowKit

/-- A tree. -/
inductive Gn where
  | node (k : Int) (n : Int) (t : ByteArray) (vk : Int) (vn : Int) (vt : ByteArray) (vr : Int) (kids : List Gn)
def Gn.k : Gn → Int | .node a _ _ _ _ _ _ _ => a
def Gn.n : Gn → Int | .node _ a _ _ _ _ _ _ => a
def Gn.t : Gn → ByteArray | .node _ _ a _ _ _ _ _ => a
def Gn.vk : Gn → Int | .node _ _ _ a _ _ _ _ => a
def Gn.vn : Gn → Int | .node _ _ _ _ a _ _ _ => a
def Gn.vt : Gn → ByteArray | .node _ _ _ _ _ a _ _ => a
def Gn.vr : Gn → Int | .node _ _ _ _ _ _ a _ => a
def Gn.kids : Gn → List Gn | .node _ _ _ _ _ _ _ a => a
/-- Its strings fit in memory. -/
def Gn.szOk (x : Gn) : Prop := x.t.size ≤ maxLen ∧ x.vt.size ≤ maxLen
/-- As one value, its Kids at A. -/
abbrev Gn.ag (x : Gn) (A : Option Addr) (n c : Nat) : Value := .agg #[.int .i64 x.k, .int .i64 x.n, .string x.t, .int .i64 x.vk, .int .i64 x.vn, .string x.vt, .int .i64 x.vr, .slice A n c]
def Gn.vs (x : Gn) (A : Option Addr) (n c : Nat) : List Value := [.int .i64 x.k, .int .i64 x.n, .string x.t, .int .i64 x.vk, .int .i64 x.vn, .string x.vt, .int .i64 x.vr, .slice A n c]
/-- Its cells from o on of block b. -/
def GnAt (w : World) (b o : Nat) (x : Gn) (A : Option Addr) (n c : Nat) : Prop :=
  w.cell? ⟨b, o, none⟩ = some (.int .i64 x.k) ∧ w.cell? ⟨b, o + 1, none⟩ = some (.int .i64 x.n) ∧ w.cell? ⟨b, o + 2, none⟩ = some (.string x.t) ∧ w.cell? ⟨b, o + 3, none⟩ = some (.int .i64 x.vk) ∧ w.cell? ⟨b, o + 4, none⟩ = some (.int .i64 x.vn) ∧ w.cell? ⟨b, o + 5, none⟩ = some (.string x.vt) ∧ w.cell? ⟨b, o + 6, none⟩ = some (.int .i64 x.vr) ∧ w.cell? ⟨b, o + 7, none⟩ = some (.slice A n c)
theorem GnAt.below {w w' : World} {b o B : Nat} {x : Gn} {A : Option Addr} {n c : Nat} (h : GnAt w b o x A n c) (hb : Below B w w') (hg : b < B) : GnAt w' b o x A n c := by
  obtain ⟨h0, h1, h2, h3, h4, h5, h6, h7⟩ := h
  exact ⟨(hb.cell (p := ⟨b, o, none⟩) hg).trans h0, (hb.cell (p := ⟨b, o + 1, none⟩) hg).trans h1, (hb.cell (p := ⟨b, o + 2, none⟩) hg).trans h2, (hb.cell (p := ⟨b, o + 3, none⟩) hg).trans h3, (hb.cell (p := ⟨b, o + 4, none⟩) hg).trans h4, (hb.cell (p := ⟨b, o + 5, none⟩) hg).trans h5, (hb.cell (p := ⟨b, o + 6, none⟩) hg).trans h6, (hb.cell (p := ⟨b, o + 7, none⟩) hg).trans h7⟩
theorem GnAt.other {w : World} {b o : Nat} {x : Gn} {A : Option Addr} {n c : Nat} (h : GnAt w b o x A n c) {q : Addr} (hp : b ≠ q.block) (u : Value) : GnAt (w.setCell q u) b o x A n c := by
  have k : ∀ i, (w.setCell q u).cell? ⟨b, i, none⟩ = w.cell? ⟨b, i, none⟩ := fun i => World.cell?_setCell_other w q ⟨b, i, none⟩ u (fun e => hp (by rw [e]))
  obtain ⟨h0, h1, h2, h3, h4, h5, h6, h7⟩ := h
  exact ⟨(k _).trans h0, (k _).trans h1, (k _).trans h2, (k _).trans h3, (k _).trans h4, (k _).trans h5, (k _).trans h6, (k _).trans h7⟩
/-- A slice of trees of depth at most d, whose blocks lie from lo up to B. -/
def GnD (w : World) (lo B : Nat) : Nat → Option Addr → Nat → List Gn → Prop
  | 0, _, n, xs => xs = [] ∧ n = 0
  | d + 1, A, n, xs => xs.length = n ∧ n ≤ maxLen ∧ (0 < n → ∃ b off, A = some ⟨b, off, none⟩ ∧ lo ≤ b ∧ b < B ∧
      ∀ (j : Nat) (x : Gn), xs[j]? = some x → ∃ (A' : Option Addr) (n' c' : Nat), n' ≤ c' ∧ GnAt w b (off + j * 8) x A' n' c' ∧ x.szOk ∧ GnD w lo B d A' n' x.kids)
/-- One tree, its Kids at A. -/
def GnV (w : World) (lo B d : Nat) (x : Gn) (A : Option Addr) (n : Nat) : Prop := x.szOk ∧ GnD w lo B d A n x.kids
theorem GnD.len {w : World} {lo B : Nat} : ∀ {d : Nat} {A : Option Addr} {n : Nat} {xs : List Gn}, GnD w lo B d A n xs → xs.length = n ∧ n ≤ maxLen
  | 0, _, _, _, h => by obtain ⟨rfl, rfl⟩ := h; exact ⟨rfl, Nat.zero_le _⟩
  | _ + 1, _, _, _, h => ⟨h.1, h.2.1⟩
theorem GnD.below {w w' : World} {lo B : Nat} (hb : Below B w w') : ∀ {d : Nat} {A : Option Addr} {n : Nat} {xs : List Gn}, GnD w lo B d A n xs → GnD w' lo B d A n xs
  | 0, _, _, _, h => h
  | d + 1, A, n, xs, h => ⟨h.1, h.2.1, fun hn => by
    obtain ⟨b, off, e, hl, hg, hc⟩ := h.2.2 hn
    refine ⟨b, off, e, hl, hg, fun j x hx => ?_⟩
    obtain ⟨A', n', c', h1, h2, h3, h4⟩ := hc j x hx
    exact ⟨A', n', c', h1, h2.below hb hg, h3, GnD.below hb h4⟩⟩
theorem GnD.more {w : World} {lo B lo' B' : Nat} (hl : lo' ≤ lo) (hB : B ≤ B') : ∀ {d : Nat} {A : Option Addr} {n : Nat} {xs : List Gn}, GnD w lo B d A n xs → GnD w lo' B' d A n xs
  | 0, _, _, _, h => h
  | d + 1, A, n, xs, h => ⟨h.1, h.2.1, fun hn => by
    obtain ⟨b, off, e, h0, hg, hc⟩ := h.2.2 hn
    refine ⟨b, off, e, by omega, by omega, fun j x hx => ?_⟩
    obtain ⟨A', n', c', h1, h2, h3, h4⟩ := hc j x hx
    exact ⟨A', n', c', h1, h2, h3, GnD.more hl hB h4⟩⟩
theorem GnD.other {w : World} {lo B : Nat} {q : Addr} (hp : q.block < lo ∨ B ≤ q.block) (u : Value) : ∀ {d : Nat} {A : Option Addr} {n : Nat} {xs : List Gn}, GnD w lo B d A n xs → GnD (w.setCell q u) lo B d A n xs
  | 0, _, _, _, h => h
  | d + 1, A, n, xs, h => ⟨h.1, h.2.1, fun hn => by
    obtain ⟨b, off, e, h0, hg, hc⟩ := h.2.2 hn
    refine ⟨b, off, e, h0, hg, fun j x hx => ?_⟩
    obtain ⟨A', n', c', h1, h2, h3, h4⟩ := hc j x hx
    exact ⟨A', n', c', h1, h2.other (by omega) u, h3, GnD.other hp u h4⟩⟩
theorem GnD.others {lo B d n g : Nat} {A : Option Addr} {xs : List Gn} (hp : g < lo ∨ B ≤ g) : ∀ {vs : List Value} {w : World} {o : Nat}, GnD w lo B d A n xs → GnD (w.setCells g o vs) lo B d A n xs
  | [], _, _, h => h
  | v :: r, w, o, h => GnD.others hp (vs := r) (h.other (q := ⟨g, o, none⟩) hp v)
theorem GnD.go {W w : World} {lo d n : Nat} {A : Option Addr} {xs : List Gn} (h : GnD W lo W.heap.size d A n xs) (hb : Below W.heap.size W w) : GnD w lo w.heap.size d A n xs := (h.below hb).more (Nat.le_refl _) hb.size
theorem GnD.zero {w : World} {lo B d n : Nat} {A : Option Addr} {xs : List Gn} (h : GnD w lo B d A n xs) : GnD w 0 B d A n xs := h.more (Nat.zero_le _) (Nat.le_refl _)
theorem GnD.at_ {w : World} {lo B d n k : Nat} {A : Option Addr} {xs : List Gn} (h : GnD w lo B (d + 1) A n xs) (hk : k < n) :
    ∃ (b off : Nat) (x : Gn) (A' : Option Addr) (n' c' : Nat), A = some ⟨b, off, none⟩ ∧ lo ≤ b ∧ b < B ∧ xs[k]? = some x ∧ n' ≤ c' ∧ GnAt w b (off + k * 8) x A' n' c' ∧ x.szOk ∧ GnD w lo B d A' n' x.kids := by
  obtain ⟨b, off, e, hl, hg, hc⟩ := h.2.2 (by omega)
  have hlt : k < xs.length := by rw [h.1]; exact hk
  obtain ⟨A', n', c', h1, h2, h3, h4⟩ := hc k _ (List.getElem?_eq_getElem hlt)
  exact ⟨b, off, xs[k], A', n', c', e, hl, hg, List.getElem?_eq_getElem hlt, h1, h2, h3, h4⟩
theorem GnD.deeper {w : World} {lo B : Nat} : ∀ {d : Nat} {A : Option Addr} {n : Nat} {xs : List Gn}, GnD w lo B d A n xs → GnD w lo B (d + 1) A n xs
  | 0, _, _, _, h => by obtain ⟨rfl, rfl⟩ := h; exact ⟨rfl, Nat.zero_le _, fun h => absurd h (by omega)⟩
  | d + 1, A, n, xs, h => ⟨h.1, h.2.1, fun hn => by
    obtain ⟨b, off, e, h0, hg, hc⟩ := h.2.2 hn
    refine ⟨b, off, e, h0, hg, fun j x hx => ?_⟩
    obtain ⟨A', n', c', h1, h2, h3, h4⟩ := hc j x hx
    exact ⟨A', n', c', h1, h2, h3, GnD.deeper h4⟩⟩
theorem GnV.go {W w : World} {lo d n : Nat} {A : Option Addr} {x : Gn} (h : GnV W lo W.heap.size d x A n) (hb : Below W.heap.size W w) : GnV w lo w.heap.size d x A n := ⟨h.1, h.2.go hb⟩
theorem GnV.alloc {W : World} {lo d n : Nat} {A : Option Addr} {x : Gn} (h : GnV W lo W.heap.size d x A n) (o : Obj) : GnV (W.alloc o) lo (W.alloc o).heap.size d x A n := h.go (below_alloc W o)
theorem GnV.zero {w : World} {lo B d n : Nat} {A : Option Addr} {x : Gn} (h : GnV w lo B d x A n) : GnV w 0 B d x A n := ⟨h.1, h.2.zero⟩
theorem GnAt.range {w : World} {b o : Nat} {x : Gn} {A : Option Addr} {n c : Nat} (h : GnAt w b o x A n c) : w.rangeAt b o (x.vs A n c) := by
  obtain ⟨h0, h1, h2, h3, h4, h5, h6, h7⟩ := h
  intro j v hj
  match j, hj with
  | 0, hj => cases hj; exact h0
  | 1, hj => cases hj; exact h1
  | 2, hj => cases hj; exact h2
  | 3, hj => cases hj; exact h3
  | 4, hj => cases hj; exact h4
  | 5, hj => cases hj; exact h5
  | 6, hj => cases hj; exact h6
  | 7, hj => cases hj; exact h7
  | j + 8, hj => simp [Gn.vs] at hj

section
variable {H : Type} {enc : TypeId × Value → H} {W : World} {base : Nat} {held : Bool}
set_option maxRecDepth 100000 in
/-- A tree's cells, each with its own reading; the Kids opened by 'ih'. -/
theorem open_GnN {fuel d : Nat} {cs : List Value} {x : DataW H × List MemPlace} (ih : ∀ (m : Nat) (A : Option Addr) (n c : Nat) (y : DataW H × List MemPlace), fuel = m + 1 → DataW.trod enc Try.prog W base (fun _ => true) held m 67 [.slice A n c] = some y → ∃ xs, GnD W 0 W.heap.size d A n xs)
    (h : DataW.trod enc Try.prog W base (fun _ => true) held fuel 69 cs = some x) :
    ∃ x A n c, n ≤ c ∧ cs = Gn.vs x A n c ∧ GnV W 0 W.heap.size d x A n := by
  obtain ⟨ys, m, hm, _, hlen, _, hf⟩ := DataW.trod_struct Try.underlying69 h
  have hlen' : cs.length = 8 := hlen.trans (by kernel_rfl)
  match cs, hlen' with
  | [c0, c1, c2, c3, c4, c5, c6, c7], _ =>
    have hys : ∀ i, i < 5 → ∃ y, ys[i]? = some y := by
      intro i hi
      have : ys.length = 5 := by assumption
      exact ⟨_, List.getElem?_eq_getElem (by omega)⟩
    have C4 : Try.prog.cellsOf 66 = 4 := by kernel_rfl
    have f0 : DataW.trod enc Try.prog W base (fun _ => true) held m 2 [c0] = ys[0]? := field_at (i := 0) (o := 0) (k := 1) (T := 2) hf (by kernel_rfl) (by kernel_rfl)
    have f1 : DataW.trod enc Try.prog W base (fun _ => true) held m 2 [c1] = ys[1]? := field_at (i := 1) (o := 1) (k := 1) (T := 2) hf (by kernel_rfl) (by kernel_rfl)
    have f2 : DataW.trod enc Try.prog W base (fun _ => true) held m 9 [c2] = ys[2]? := field_at (i := 2) (o := 2) (k := 1) (T := 9) hf (by kernel_rfl) (by kernel_rfl)
    have f3 : DataW.trod enc Try.prog W base (fun _ => true) held m 66 [c3, c4, c5, c6] = ys[3]? := field_at (i := 3) (o := 3) (k := 4) (T := 66) hf (by kernel_rfl) C4
    have f4 : DataW.trod enc Try.prog W base (fun _ => true) held m 67 [c7] = ys[4]? := field_at (i := 4) (o := 7) (k := 1) (T := 67) hf (by kernel_rfl) (by kernel_rfl)
    obtain ⟨y0, g0⟩ := hys 0 (by decide)
    obtain ⟨y1, g1⟩ := hys 1 (by decide)
    obtain ⟨y2, g2⟩ := hys 2 (by decide)
    obtain ⟨y3, g3⟩ := hys 3 (by decide)
    obtain ⟨y4, g4⟩ := hys 4 (by decide)
    rw [g0] at f0
    rw [g1] at f1
    rw [g2] at f2
    rw [g3] at f3
    rw [g4] at f4
    obtain ⟨z0, e0, _, _⟩ := DataW.trod_int Try.underlying2 f0
    obtain ⟨z1, e1, _, _⟩ := DataW.trod_int Try.underlying2 f1
    obtain ⟨z2, e2, _, hz2⟩ := DataW.trod_string Try.underlying9 f2
    obtain ⟨ys', m', _, _, _, hl', hf'⟩ := DataW.trod_struct Try.underlying66 f3
    have hys' : ∀ i, i < 4 → ∃ y, ys'[i]? = some y := by
      intro i hi
      have : ys'.length = 4 := by assumption
      exact ⟨_, List.getElem?_eq_getElem (by omega)⟩
    have v0 : DataW.trod enc Try.prog W base (fun _ => true) held m' 2 [c3] = ys'[0]? := field_at (i := 0) (o := 0) (k := 1) (T := 2) hf' (by kernel_rfl) (by kernel_rfl)
    have v1 : DataW.trod enc Try.prog W base (fun _ => true) held m' 2 [c4] = ys'[1]? := field_at (i := 1) (o := 1) (k := 1) (T := 2) hf' (by kernel_rfl) (by kernel_rfl)
    have v2 : DataW.trod enc Try.prog W base (fun _ => true) held m' 9 [c5] = ys'[2]? := field_at (i := 2) (o := 2) (k := 1) (T := 9) hf' (by kernel_rfl) (by kernel_rfl)
    have v3 : DataW.trod enc Try.prog W base (fun _ => true) held m' 2 [c6] = ys'[3]? := field_at (i := 3) (o := 3) (k := 1) (T := 2) hf' (by kernel_rfl) (by kernel_rfl)
    obtain ⟨u0, k0⟩ := hys' 0 (by decide)
    obtain ⟨u1, k1⟩ := hys' 1 (by decide)
    obtain ⟨u2, k2⟩ := hys' 2 (by decide)
    obtain ⟨u3, k3⟩ := hys' 3 (by decide)
    rw [k0] at v0
    rw [k1] at v1
    rw [k2] at v2
    rw [k3] at v3
    obtain ⟨z3, e3, _, _⟩ := DataW.trod_int Try.underlying2 v0
    obtain ⟨z4, e4, _, _⟩ := DataW.trod_int Try.underlying2 v1
    obtain ⟨z5, e5, _, hz5⟩ := DataW.trod_string Try.underlying9 v2
    obtain ⟨z6, e6, _, _⟩ := DataW.trod_int Try.underlying2 v3
    obtain ⟨A, n, c, hc, e7⟩ := open_slice1 Try.underlying67 f4
    rw [e7] at f4
    obtain ⟨xs, hxs⟩ := ih m A n c _ hm f4
    simp only [List.cons.injEq, and_true] at e0 e1 e2 e3 e4 e5 e6 e7
    subst e0 e1 e2 e3 e4 e5 e6 e7
    exact ⟨.node z0 z1 z2 z3 z4 z5 z6 xs, A, n, c, hc, rfl, ⟨hz2, hz5⟩, hxs⟩
theorem open_GnF : ∀ {fuel : Nat} {A : Option Addr} {n c : Nat} {x : DataW H × List MemPlace}, DataW.trod enc Try.prog W base (fun _ => true) held fuel 67 [.slice A n c] = some x → ∃ xs, GnD W 0 W.heap.size (fuel + 1) A n xs := by
  intro fuel
  induction fuel using Nat.strongRecOn with
  | _ fuel ih =>
    intro A n c x hf
    rcases DataW.trod_slice Try.underlying67 hf with ⟨h0, _⟩ | ⟨a, len, cap, elems, rest, m, hfm, hcs, _, hb, hl, hm, hlen, hel, _⟩
    · simp at h0
      obtain ⟨rfl, rfl, rfl⟩ := h0
      exact ⟨[], rfl, Nat.zero_le _, fun h => absurd h (by omega)⟩
    · simp only [List.cons.injEq, Value.slice.injEq, and_true] at hcs
      obtain ⟨rfl, rfl, rfl⟩ := hcs
      have hC : Try.prog.cellsOf 69 = 8 := by kernel_rfl
      have key : ∀ i, i < n → ∃ (x : Gn) (A' : Option Addr) (n' c' : Nat), n' ≤ c' ∧ (∀ j v, (Gn.vs x A' n' c')[j]? = some v → W.cell? (a.add (i * 8 + j)) = some v) ∧ GnV W 0 W.heap.size fuel x A' n' := by
        intro i hin
        have h1 := hel i hin
        rw [List.getElem?_eq_getElem (by omega), Option.bind_eq_some_iff] at h1
        obtain ⟨cs', hc, ht'⟩ := h1
        rw [hC] at hc
        have ih' : ∀ (q : Nat) (A : Option Addr) (n c : Nat) (y : DataW H × List MemPlace), m = q + 1 → DataW.trod enc Try.prog W base (fun _ => true) held q 67 [.slice A n c] = some y → ∃ xs, GnD W 0 W.heap.size (q + 1) A n xs := fun q A n c y hq hy => ih q (by omega) hy
        obtain ⟨x, A', n', c', hnc, e, ho⟩ : ∃ x A n c, n ≤ c ∧ cs' = Gn.vs x A n c ∧ GnV W 0 W.heap.size fuel x A n := by
          refine open_GnN (d := fuel) (fun q A n c y hq hy => ?_) ht'
          obtain ⟨xs, hxs⟩ := ih' q A n c y hq hy
          have : fuel = q + 1 + 1 := by omega
          rw [this]
          exact ⟨xs, GnD.deeper hxs⟩
        obtain ⟨_, hcl, hat⟩ := World.cells?_some hc
        refine ⟨x, A', n', c', hnc, fun j v hj => ?_, ho⟩
        rw [← e] at hj
        have hjl : j < 8 := by have := (List.getElem?_eq_some_iff.1 hj).1; omega
        rw [← Go.Deep.add_add, hat j hjl, hj]
      have hnm : n ≤ maxLen := Nat.le_trans hl hm
      by_cases hn : 0 < n
      · obtain ⟨ab, ao, spot⟩ := a
        obtain ⟨x0, A0, n0, c0, _, h0, _⟩ := key 0 hn
        have h00 := h0 0 _ rfl
        have hspot : spot = none := by simpa [Addr.add] using World.cell?_spot h00
        subst hspot
        rw [Addr.add_lit] at h00
        obtain ⟨xs, hl', hx'⟩ := list_of (α := Gn) (P := fun j x => ∃ (A' : Option Addr) (n' c' : Nat), n' ≤ c' ∧ GnAt W ab (ao + j * 8) x A' n' c' ∧ x.szOk ∧ GnD W 0 W.heap.size fuel A' n' x.kids) (n := n) fun i hin => by
          obtain ⟨x, A', n', c', hnc, hc, ho⟩ := key i hin
          have hc' : ∀ j v, (Gn.vs x A' n' c')[j]? = some v → W.cell? ⟨ab, ao + i * 8 + j, none⟩ = some v := by
            intro j v hj
            have := hc j v hj
            rw [Addr.add_lit, ← Nat.add_assoc] at this
            exact this
          exact ⟨x, A', n', c', hnc, ⟨hc' 0 _ rfl, hc' 1 _ rfl, hc' 2 _ rfl, hc' 3 _ rfl, hc' 4 _ rfl, hc' 5 _ rfl, hc' 6 _ rfl, hc' 7 _ rfl⟩, ho.1, ho.2⟩
        exact ⟨xs, hl', hnm, fun _ => ⟨ab, ao, rfl, Nat.zero_le _, World.block_lt_of_cell? W ⟨ab, _, none⟩ h00, hx'⟩⟩
      · exact ⟨[], by simp; omega, hnm, fun h => absurd h hn⟩
end
set_option maxRecDepth 100000 in
/-- An argument that is a tree. -/
theorem open_Gn {H : Type} {enc : TypeId × Value → H} {W : World} {v : Value} {d : DataW H} {p : List MemPlace} {r : Reach} {b0 : Nat} (hv : Value.okWide Try.prog W r b0 69 v) (h : DataW.Trod enc Try.prog W 0 (fun _ => true) true 69 v d p) :
    ∃ d x A n c, v = Gn.ag x A n c ∧ GnV W 0 W.heap.size d x A n := by
  obtain ⟨cs, rfl, hsz⟩ := Go.WideShapes.okWide_struct Try.underlying69 hv
  obtain ⟨fuel, hf⟩ := h
  obtain ⟨x, A, n, c, hnc, e, ho⟩ := open_GnN (d := fuel) (fun q A n c y hq hy => by
    obtain ⟨xs, hxs⟩ := open_GnF hy
    rw [hq]
    exact ⟨xs, hxs⟩) hf
  refine ⟨fuel, x, A, n, c, ?_, ho⟩
  have : cs.toList = Gn.vs x A n c := e
  rw [show cs = (Gn.vs x A n c).toArray from by rw [← this]]
  rfl
/-- An argument that is a slice of trees. -/
theorem open_GnS {H : Type} {enc : TypeId × Value → H} {W : World} {A : Option Addr} {n c : Nat} {d : DataW H} {p : List MemPlace} (h : DataW.Trod enc Try.prog W 0 (fun _ => true) true 67 (.slice A n c) d p) :
    ∃ d xs, GnD W 0 W.heap.size d A n xs := by
  obtain ⟨fuel, hf⟩ := h
  obtain ⟨xs, hxs⟩ := open_GnF (by simpa [Value.cells] using hf)
  exact ⟨_, xs, hxs⟩
end Go.Proofs.Ytbaadphgbhaboaa
