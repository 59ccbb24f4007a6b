/- Trees (Gn) whose blocks are rows of cells, none frozen. No condition. -/
import Derived.Test.YtbaadphgbhaboaaGns
import Derived.Test.YtbaadphgbhaboaaAMap
namespace Go.Proofs.Ytbaadphgbhaboaa
open Go Go.RowKit

/-- A slice of trees of depth at most d, whose blocks lie from lo up to B. -/
def GnU (w : World) (lo B : Nat) : Nat → Option Addr → Nat → List Gn → Prop
  | 0, _, n, xs => xs = [] ∧ n = 0
  | d + 1, A, n, xs => xs.length = n ∧ n ≤ maxLen ∧ (0 < n → ∃ b off, A = some ⟨b, off, none⟩ ∧ lo ≤ b ∧ b < B ∧ Good w b ∧
      ∀ (j : Nat) (x : Gn), xs[j]? = some x → ∃ (A' : Option Addr) (n' c' : Nat), n' ≤ c' ∧ GnAt w b (off + j * 8) x A' n' c' ∧ x.szOk ∧ GnU w lo B d A' n' x.kids)
/-- One tree, its Kids at A. -/
def GnUV (w : World) (lo B d : Nat) (x : Gn) (A : Option Addr) (n : Nat) : Prop := x.szOk ∧ GnU w lo B d A n x.kids
theorem GnU.len {w : World} {lo B : Nat} : ∀ {d : Nat} {A : Option Addr} {n : Nat} {xs : List Gn}, GnU w lo B d A n xs → xs.length = n ∧ n ≤ maxLen
  | 0, _, _, _, h => by obtain ⟨rfl, rfl⟩ := h; exact ⟨rfl, Nat.zero_le _⟩
  | _ + 1, _, _, _, h => ⟨h.1, h.2.1⟩
theorem GnU.below {w w' : World} {lo B : Nat} (hb : Below B w w') : ∀ {d : Nat} {A : Option Addr} {n : Nat} {xs : List Gn}, GnU w lo B d A n xs → GnU w' lo B d A n xs
  | 0, _, _, _, h => h
  | d + 1, A, n, xs, h => ⟨h.1, h.2.1, fun hn => by
    obtain ⟨b, off, e, hl, hg, hG, hc⟩ := h.2.2 hn
    refine ⟨b, off, e, hl, hg, hG.below hb hg, fun j x hx => ?_⟩
    obtain ⟨A', n', c', h1, h2, h3, h4⟩ := hc j x hx
    exact ⟨A', n', c', h1, h2.below hb hg, h3, GnU.below hb h4⟩⟩
theorem GnU.more {w : World} {lo B lo' B' : Nat} (hl : lo' ≤ lo) (hB : B ≤ B') : ∀ {d : Nat} {A : Option Addr} {n : Nat} {xs : List Gn}, GnU w lo B d A n xs → GnU w lo' B' d A n xs
  | 0, _, _, _, h => h
  | d + 1, A, n, xs, h => ⟨h.1, h.2.1, fun hn => by
    obtain ⟨b, off, e, h0, hg, hG, hc⟩ := h.2.2 hn
    refine ⟨b, off, e, by omega, by omega, hG, fun j x hx => ?_⟩
    obtain ⟨A', n', c', h1, h2, h3, h4⟩ := hc j x hx
    exact ⟨A', n', c', h1, h2, h3, GnU.more hl hB h4⟩⟩
theorem GnU.other {w : World} {lo B : Nat} {q : Addr} (hp : q.block < lo ∨ B ≤ q.block) (u : Value) : ∀ {d : Nat} {A : Option Addr} {n : Nat} {xs : List Gn}, GnU w lo B d A n xs → GnU (w.setCell q u) lo B d A n xs
  | 0, _, _, _, h => h
  | d + 1, A, n, xs, h => ⟨h.1, h.2.1, fun hn => by
    obtain ⟨b, off, e, h0, hg, hG, hc⟩ := h.2.2 hn
    refine ⟨b, off, e, h0, hg, hG.setCell _ _, fun j x hx => ?_⟩
    obtain ⟨A', n', c', h1, h2, h3, h4⟩ := hc j x hx
    exact ⟨A', n', c', h1, h2.other (by omega) u, h3, GnU.other hp u h4⟩⟩
theorem GnU.others {lo B d n g : Nat} {A : Option Addr} {xs : List Gn} (hp : g < lo ∨ B ≤ g) : ∀ {vs : List Value} {w : World} {o : Nat}, GnU w lo B d A n xs → GnU (w.setCells g o vs) lo B d A n xs
  | [], _, _, h => h
  | v :: r, w, o, h => GnU.others hp (vs := r) (h.other (q := ⟨g, o, none⟩) hp v)
theorem GnU.go {W w : World} {lo d n : Nat} {A : Option Addr} {xs : List Gn} (h : GnU W lo W.heap.size d A n xs) (hb : Below W.heap.size W w) : GnU w lo w.heap.size d A n xs := (h.below hb).more (Nat.le_refl _) hb.size
theorem GnU.zero {w : World} {lo B d n : Nat} {A : Option Addr} {xs : List Gn} (h : GnU w lo B d A n xs) : GnU w 0 B d A n xs := h.more (Nat.zero_le _) (Nat.le_refl _)
theorem GnU.at_ {w : World} {lo B d n k : Nat} {A : Option Addr} {xs : List Gn} (h : GnU w lo B (d + 1) A n xs) (hk : k < n) :
    ∃ (b off : Nat) (x : Gn) (A' : Option Addr) (n' c' : Nat), A = some ⟨b, off, none⟩ ∧ lo ≤ b ∧ b < B ∧ Good w b ∧ xs[k]? = some x ∧ n' ≤ c' ∧ GnAt w b (off + k * 8) x A' n' c' ∧ x.szOk ∧ GnU w lo B d A' n' x.kids := by
  obtain ⟨b, off, e, hl, hg, hG, hc⟩ := h.2.2 (by omega)
  have hlt : k < xs.length := by rw [h.1]; exact hk
  obtain ⟨A', n', c', h1, h2, h3, h4⟩ := hc k _ (List.getElem?_eq_getElem hlt)
  exact ⟨b, off, xs[k], A', n', c', e, hl, hg, hG, List.getElem?_eq_getElem hlt, h1, h2, h3, h4⟩
theorem GnU.deeper {w : World} {lo B : Nat} : ∀ {d : Nat} {A : Option Addr} {n : Nat} {xs : List Gn}, GnU w lo B d A n xs → GnU w lo B (d + 1) A n xs
  | 0, _, _, _, h => by obtain ⟨rfl, rfl⟩ := h; exact ⟨rfl, Nat.zero_le _, fun h => absurd h (by omega)⟩
  | d + 1, A, n, xs, h => ⟨h.1, h.2.1, fun hn => by
    obtain ⟨b, off, e, h0, hg, hG, hc⟩ := h.2.2 hn
    refine ⟨b, off, e, h0, hg, hG, fun j x hx => ?_⟩
    obtain ⟨A', n', c', h1, h2, h3, h4⟩ := hc j x hx
    exact ⟨A', n', c', h1, h2, h3, GnU.deeper h4⟩⟩
theorem GnUV.go {W w : World} {lo d n : Nat} {A : Option Addr} {x : Gn} (h : GnUV W lo W.heap.size d x A n) (hb : Below W.heap.size W w) : GnUV w lo w.heap.size d x A n := ⟨h.1, h.2.go hb⟩
theorem GnUV.alloc {W : World} {lo d n : Nat} {A : Option Addr} {x : Gn} (h : GnUV W lo W.heap.size d x A n) (o : Obj) : GnUV (W.alloc o) lo (W.alloc o).heap.size d x A n := h.go (below_alloc W o)
theorem GnUV.zero {w : World} {lo B d n : Nat} {A : Option Addr} {x : Gn} (h : GnUV w lo B d x A n) : GnUV w 0 B d x A n := ⟨h.1, h.2.zero⟩

theorem GnU.tree {w : World} {lo B : Nat} : ∀ {d : Nat} {A : Option Addr} {n : Nat} {xs : List Gn}, GnU w lo B d A n xs → GnD w lo B d A n xs
  | 0, _, _, _, h => h
  | d + 1, A, n, xs, h => ⟨h.1, h.2.1, fun hn => by
    obtain ⟨b, off, e, h0, hg, _, hc⟩ := h.2.2 hn
    refine ⟨b, off, e, h0, hg, fun j x hx => ?_⟩
    obtain ⟨A', n', c', h1, h2, h3, h4⟩ := hc j x hx
    exact ⟨A', n', c', h1, h2, h3, GnU.tree h4⟩⟩
end Go.Proofs.Ytbaadphgbhaboaa
