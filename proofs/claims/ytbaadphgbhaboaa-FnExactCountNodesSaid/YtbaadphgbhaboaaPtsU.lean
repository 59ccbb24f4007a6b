/- Trees (Pt) whose blocks are rows of cells, none frozen. No condition. -/
import Derived.Test.YtbaadphgbhaboaaPts
import Derived.Test.YtbaadphgbhaboaaAMap
namespace Go.Proofs.Ytbaadphgbhaboaa
open Go Go.RowKit

/-- A slice of trees of depth at most d, whose blocks lie from lo up to B. -/
def PtU (w : World) (lo B : Nat) : Nat → Option Addr → Nat → List Pt → Prop
  | 0, _, n, xs => xs = [] ∧ n = 0
  | d + 1, A, n, xs => xs.length = n ∧ n ≤ maxLen ∧ (0 < n → ∃ b off, A = some ⟨b, off, none⟩ ∧ lo ≤ b ∧ b < B ∧ Good w b ∧
      ∀ (j : Nat) (x : Pt), xs[j]? = some x → ∃ (A' : Option Addr) (n' c' : Nat), n' ≤ c' ∧ PtAt w b (off + j * 4) x A' n' c' ∧ x.t.size ≤ maxLen ∧ PtU w lo B d A' n' x.kids)
/-- One tree, its Kids at A. -/
def PtUV (w : World) (lo B d : Nat) (x : Pt) (A : Option Addr) (n : Nat) : Prop := x.t.size ≤ maxLen ∧ PtU w lo B d A n x.kids
theorem PtU.len {w : World} {lo B : Nat} : ∀ {d : Nat} {A : Option Addr} {n : Nat} {xs : List Pt}, PtU w lo B d A n xs → xs.length = n ∧ n ≤ maxLen
  | 0, _, _, _, h => by obtain ⟨rfl, rfl⟩ := h; exact ⟨rfl, Nat.zero_le _⟩
  | _ + 1, _, _, _, h => ⟨h.1, h.2.1⟩
theorem PtU.below {w w' : World} {lo B : Nat} (hb : Below B w w') : ∀ {d : Nat} {A : Option Addr} {n : Nat} {xs : List Pt}, PtU w lo B d A n xs → PtU w' lo B d A n xs
  | 0, _, _, _, h => h
  | d + 1, A, n, xs, h => ⟨h.1, h.2.1, fun hn => by
    obtain ⟨b, off, e, hl, hg, hG, hc⟩ := h.2.2 hn
    refine ⟨b, off, e, hl, hg, hG.below hb hg, fun j x hx => ?_⟩
    obtain ⟨A', n', c', h1, h2, h3, h4⟩ := hc j x hx
    exact ⟨A', n', c', h1, h2.below hb hg, h3, PtU.below hb h4⟩⟩
theorem PtU.more {w : World} {lo B lo' B' : Nat} (hl : lo' ≤ lo) (hB : B ≤ B') : ∀ {d : Nat} {A : Option Addr} {n : Nat} {xs : List Pt}, PtU w lo B d A n xs → PtU w lo' B' d A n xs
  | 0, _, _, _, h => h
  | d + 1, A, n, xs, h => ⟨h.1, h.2.1, fun hn => by
    obtain ⟨b, off, e, h0, hg, hG, hc⟩ := h.2.2 hn
    refine ⟨b, off, e, by omega, by omega, hG, fun j x hx => ?_⟩
    obtain ⟨A', n', c', h1, h2, h3, h4⟩ := hc j x hx
    exact ⟨A', n', c', h1, h2, h3, PtU.more hl hB h4⟩⟩
theorem PtU.other {w : World} {lo B : Nat} {q : Addr} (hp : q.block < lo ∨ B ≤ q.block) (u : Value) : ∀ {d : Nat} {A : Option Addr} {n : Nat} {xs : List Pt}, PtU w lo B d A n xs → PtU (w.setCell q u) lo B d A n xs
  | 0, _, _, _, h => h
  | d + 1, A, n, xs, h => ⟨h.1, h.2.1, fun hn => by
    obtain ⟨b, off, e, h0, hg, hG, hc⟩ := h.2.2 hn
    refine ⟨b, off, e, h0, hg, hG.setCell _ _, fun j x hx => ?_⟩
    obtain ⟨A', n', c', h1, h2, h3, h4⟩ := hc j x hx
    exact ⟨A', n', c', h1, h2.other (by omega) u, h3, PtU.other hp u h4⟩⟩
theorem PtU.others {lo B d n g : Nat} {A : Option Addr} {xs : List Pt} (hp : g < lo ∨ B ≤ g) : ∀ {vs : List Value} {w : World} {o : Nat}, PtU w lo B d A n xs → PtU (w.setCells g o vs) lo B d A n xs
  | [], _, _, h => h
  | v :: r, w, o, h => PtU.others hp (vs := r) (h.other (q := ⟨g, o, none⟩) hp v)
theorem PtU.go {W w : World} {lo d n : Nat} {A : Option Addr} {xs : List Pt} (h : PtU W lo W.heap.size d A n xs) (hb : Below W.heap.size W w) : PtU w lo w.heap.size d A n xs := (h.below hb).more (Nat.le_refl _) hb.size
theorem PtU.zero {w : World} {lo B d n : Nat} {A : Option Addr} {xs : List Pt} (h : PtU w lo B d A n xs) : PtU w 0 B d A n xs := h.more (Nat.zero_le _) (Nat.le_refl _)
theorem PtU.at_ {w : World} {lo B d n k : Nat} {A : Option Addr} {xs : List Pt} (h : PtU w lo B (d + 1) A n xs) (hk : k < n) :
    ∃ (b off : Nat) (x : Pt) (A' : Option Addr) (n' c' : Nat), A = some ⟨b, off, none⟩ ∧ lo ≤ b ∧ b < B ∧ Good w b ∧ xs[k]? = some x ∧ n' ≤ c' ∧ PtAt w b (off + k * 4) x A' n' c' ∧ x.t.size ≤ maxLen ∧ PtU w lo B d A' n' x.kids := by
  obtain ⟨b, off, e, hl, hg, hG, hc⟩ := h.2.2 (by omega)
  have hlt : k < xs.length := by rw [h.1]; exact hk
  obtain ⟨A', n', c', h1, h2, h3, h4⟩ := hc k _ (List.getElem?_eq_getElem hlt)
  exact ⟨b, off, xs[k], A', n', c', e, hl, hg, hG, List.getElem?_eq_getElem hlt, h1, h2, h3, h4⟩
theorem PtU.deeper {w : World} {lo B : Nat} : ∀ {d : Nat} {A : Option Addr} {n : Nat} {xs : List Pt}, PtU w lo B d A n xs → PtU w lo B (d + 1) A n xs
  | 0, _, _, _, h => by obtain ⟨rfl, rfl⟩ := h; exact ⟨rfl, Nat.zero_le _, fun h => absurd h (by omega)⟩
  | d + 1, A, n, xs, h => ⟨h.1, h.2.1, fun hn => by
    obtain ⟨b, off, e, h0, hg, hG, hc⟩ := h.2.2 hn
    refine ⟨b, off, e, h0, hg, hG, fun j x hx => ?_⟩
    obtain ⟨A', n', c', h1, h2, h3, h4⟩ := hc j x hx
    exact ⟨A', n', c', h1, h2, h3, PtU.deeper h4⟩⟩
theorem PtUV.go {W w : World} {lo d n : Nat} {A : Option Addr} {x : Pt} (h : PtUV W lo W.heap.size d x A n) (hb : Below W.heap.size W w) : PtUV w lo w.heap.size d x A n := ⟨h.1, h.2.go hb⟩
theorem PtUV.alloc {W : World} {lo d n : Nat} {A : Option Addr} {x : Pt} (h : PtUV W lo W.heap.size d x A n) (o : Obj) : PtUV (W.alloc o) lo (W.alloc o).heap.size d x A n := h.go (below_alloc W o)
theorem PtUV.zero {w : World} {lo B d n : Nat} {A : Option Addr} {x : Pt} (h : PtUV w lo B d x A n) : PtUV w 0 B d x A n := ⟨h.1, h.2.zero⟩

theorem PtU.tree {w : World} {lo B : Nat} : ∀ {d : Nat} {A : Option Addr} {n : Nat} {xs : List Pt}, PtU w lo B d A n xs → PtD w lo B d A n xs
  | 0, _, _, _, h => h
  | d + 1, A, n, xs, h => ⟨h.1, h.2.1, fun hn => by
    obtain ⟨b, off, e, h0, hg, _, hc⟩ := h.2.2 hn
    refine ⟨b, off, e, h0, hg, fun j x hx => ?_⟩
    obtain ⟨A', n', c', h1, h2, h3, h4⟩ := hc j x hx
    exact ⟨A', n', c', h1, h2, h3, PtU.tree h4⟩⟩
end Go.Proofs.Ytbaadphgbhaboaa
