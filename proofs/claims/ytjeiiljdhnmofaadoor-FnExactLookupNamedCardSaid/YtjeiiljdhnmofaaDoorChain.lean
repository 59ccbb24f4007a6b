/- Plain: a chain of patterns, its nodes, when it is valid. No condition. -/
import Derived.Test.YtjeiiljdhnmofaaDoorCopyW
import Derived.Test.YtjeiiljdhnmofaaDoorPtValS
namespace Go.Proofs.YtjeiiljdhnmofaaDoor
open Go Go.RowKit

/-- The chain of a list: kind κ; of no pattern: one of kind ν. -/
def chP (κ ν : Int) : List Pt → Pt
  | [] => .node ν 0 ⟨#[]⟩ []
  | [x] => x
  | x :: y :: r => .node κ 0 ⟨#[]⟩ [x, chP κ ν (y :: r)]
theorem chP_step {κ ν : Int} {xs : List Pt} {i : Nat} {x : Pt} (hx : xs[i]? = some x) (h : i + 1 < xs.length) : chP κ ν (xs.drop i) = .node κ 0 ⟨#[]⟩ [x, chP κ ν (xs.drop (i + 1))] := by
  have hi : i < xs.length := by omega
  have e : xs[i] = x := by rw [List.getElem?_eq_getElem hi, Option.some.injEq] at hx; exact hx
  rw [List.drop_eq_getElem_cons hi, e, List.drop_eq_getElem_cons h]
  rfl
theorem chP_last {κ ν : Int} {xs : List Pt} {i : Nat} {x : Pt} (hx : xs[i]? = some x) (h : i + 1 = xs.length) : chP κ ν (xs.drop i) = x := by
  have hi : i < xs.length := by omega
  have e : xs[i] = x := by rw [List.getElem?_eq_getElem hi, Option.some.injEq] at hx; exact hx
  rw [List.drop_eq_getElem_cons hi, e, List.drop_of_length_le (by omega)]
  rfl
theorem chP_cnt (κ ν : Int) : ∀ (xs : List Pt), 0 < xs.length → ptCnt (chP κ ν xs) + 1 = ptCnts xs + xs.length
  | [], h => absurd h (by simp)
  | [x], _ => by rw [chP, ptCnts, ptCnts]; simp
  | x :: y :: r, _ => by
    have ih := chP_cnt κ ν (y :: r) (by simp)
    rw [chP, ptCnt, ptCnts, ptCnts, ptCnts]
    rw [ptCnts]
    simp only [List.length_cons] at ih ⊢
    omega
theorem chP_all {κ ν : Int} (hκ : κ = 18 ∨ κ = 19) : ∀ (xs : List Pt), 0 < xs.length → (ptAll (chP κ ν xs) ↔ ptAlls xs)
  | [], h => absurd h (by simp)
  | [x], _ => by rw [chP, ptAlls, ptAlls]; simp
  | x :: y :: r, _ => by
    have ih := chP_all (ν := ν) hκ (y :: r) (by simp)
    have e1 : ptAlls [x, chP κ ν (y :: r)] ↔ ptAll x ∧ ptAll (chP κ ν (y :: r)) := by rw [ptAlls, ptAlls, ptAlls]; simp
    have e2 : ptAlls (x :: y :: r) ↔ ptAll x ∧ ptAlls (y :: r) := by rw [ptAlls]
    rw [chP, ptAll, e1, e2, ih]
    have hp : (Pt.node κ 0 ⟨#[]⟩ [x, chP κ ν (y :: r)]).proper = true := by
      rcases hκ with rfl | rfl <;> rfl
    simp [hp]
theorem none_valid {ν : Int} (hν : ν = 1 ∨ ν = 16) : ValidP (.node ν 0 ⟨#[]⟩ []) := by
  refine ⟨by rw [ptCnt, ptCnts]; decide, ?_⟩
  rw [ptAll, ptAlls]
  refine ⟨?_, trivial⟩
  rcases hν with rfl | rfl <;> decide
theorem chP_valid {κ ν : Int} (hκ : κ = 18 ∨ κ = 19) (hν : ν = 1 ∨ ν = 16) (xs : List Pt) : ValidP (chP κ ν xs) ↔ ptCnts xs + (xs.length - 1) ≤ 60 ∧ ptAlls xs := by
  rcases Nat.eq_zero_or_pos xs.length with h0 | h0
  · obtain rfl : xs = [] := List.eq_nil_of_length_eq_zero h0
    rw [chP]
    exact ⟨fun _ => ⟨by rw [ptCnts]; decide, by rw [ptAlls]; trivial⟩, fun _ => none_valid hν⟩
  · have h1 := chP_cnt κ ν xs h0
    unfold ValidP
    rw [chP_all hκ xs h0]
    constructor
    · rintro ⟨h2, h3⟩
      exact ⟨by omega, h3⟩
    · rintro ⟨h2, h3⟩
      exact ⟨by omega, h3⟩
theorem zero_pt : (Pt.node 0 0 ⟨#[]⟩ []).kids = [] := rfl
/-- The answer: the chain, or the zero pattern where it is not valid. -/
noncomputable def chA (κ ν : Int) (xs : List Pt) : Pt := open Classical in if ValidP (chP κ ν xs) then chP κ ν xs else .node 0 0 ⟨#[]⟩ []
/-- What a chain of the model is. -/
def RetCh (D : Nat) (y : Pt) (b : Bool) (W : World) (e : Ending) (w' : World) : Prop :=
  ∃ (A' : Option Addr) (n' c' : Nat), n' ≤ c' ∧ e = .returned (.tuple #[y.ag A' n' c', .bool b]) ∧ Hid (PtV w' W.heap.size w'.heap.size D y A' n' ∧ Below W.heap.size W w')
/-- What a chain of the program is: its own. -/
def RetChO (D : Nat) (y : Pt) (b : Bool) (W : World) (e : Ending) (w' : World) : Prop :=
  ∃ (A' : Option Addr) (n' c' : Nat), n' ≤ c' ∧ e = .returned (.tuple #[y.ag A' n' c', .bool b]) ∧ Hid ((y.t.size ≤ maxLen ∧ PtO w' D W.heap.size w'.heap.size A' n' y.kids) ∧ Below W.heap.size W w')
theorem PtO.upTo {w : World} {d lo hi n : Nat} {A : Option Addr} {xs : List Pt} (h : PtO w d lo hi A n xs) : ∀ {e : Nat}, d ≤ e → PtO w e lo hi A n xs
  | 0, he => by obtain rfl : d = 0 := by omega
                exact h
  | e + 1, he => by
    by_cases h2 : d = e + 1
    · rw [← h2]; exact h
    · exact (PtO.upTo h (show d ≤ e by omega)).deeper
theorem PtD.up {w : World} {d lo hi n : Nat} {A : Option Addr} {xs : List Pt} (h : PtD w lo hi d A n xs) : ∀ {e : Nat}, d ≤ e → PtD w lo hi e A n xs
  | 0, he => by obtain rfl : d = 0 := by omega
                exact h
  | e + 1, he => by
    by_cases h2 : d = e + 1
    · rw [← h2]; exact h
    · exact (PtD.up h (show d ≤ e by omega)).deeper
/-- A slice of trees that lies in no block of S. -/
def PtN (w : World) (S : Nat → Prop) : Nat → Option Addr → Nat → List Pt → Prop
  | 0, _, n, xs => xs = [] ∧ n = 0
  | d + 1, A, n, xs => xs.length = n ∧ n ≤ maxLen ∧ (0 < n → ∃ b off, A = some ⟨b, off, none⟩ ∧ ¬ S b ∧ b < w.heap.size ∧
      ∀ (j : Nat) (x : Pt), xs[j]? = some x → ∃ (A' : Option Addr) (n' c' : Nat), n' ≤ c' ∧ PtAt w b (off + j * 4) x A' n' c' ∧ x.t.size ≤ maxLen ∧ PtN w S d A' n' x.kids)
theorem PtN.tree {w : World} {S : Nat → Prop} : ∀ {d : Nat} {A : Option Addr} {n : Nat} {xs : List Pt}, PtN w S d A n xs → PtD w 0 w.heap.size d A n xs
  | 0, _, _, _, h => h
  | d + 1, A, n, xs, h => ⟨h.1, h.2.1, fun hn => by
    obtain ⟨b, off, e, hq, hg, hc⟩ := h.2.2 hn
    refine ⟨b, off, e, Nat.zero_le _, hg, fun j x hx => ?_⟩
    obtain ⟨A', n', c', h1, h2, h3, h4⟩ := hc j x hx
    exact ⟨A', n', c', h1, h2, h3, PtN.tree h4⟩⟩
theorem PtN.treeLo {w : World} {S : Nat → Prop} {lo : Nat} (hS : ∀ b, ¬ S b → lo ≤ b) : ∀ {d : Nat} {A : Option Addr} {n : Nat} {xs : List Pt}, PtN w S d A n xs → PtD w lo w.heap.size d A n xs
  | 0, _, _, _, h => h
  | d + 1, A, n, xs, h => ⟨h.1, h.2.1, fun hn => by
    obtain ⟨b, off, e, hq, hg, hc⟩ := h.2.2 hn
    refine ⟨b, off, e, hS b hq, hg, fun j x hx => ?_⟩
    obtain ⟨A', n', c', h1, h2, h3, h4⟩ := hc j x hx
    exact ⟨A', n', c', h1, h2, h3, PtN.treeLo hS h4⟩⟩
theorem PtD.away {w : World} {S : Nat → Prop} {lo B : Nat} (hq : ∀ b, lo ≤ b → b < B → ¬ S b) (hB : B ≤ w.heap.size) : ∀ {d : Nat} {A : Option Addr} {n : Nat} {xs : List Pt}, PtD w lo B d A n xs → PtN w S d A n xs
  | 0, _, _, _, h => h
  | d + 1, A, n, xs, h => ⟨h.1, h.2.1, fun hn => by
    obtain ⟨b, off, e, hl, hg, hc⟩ := h.2.2 hn
    refine ⟨b, off, e, hq b hl hg, by omega, fun j x hx => ?_⟩
    obtain ⟨A', n', c', h1, h2, h3, h4⟩ := hc j x hx
    exact ⟨A', n', c', h1, h2, h3, PtD.away hq hB h4⟩⟩
theorem PtN.keep {w w' : World} {S : Nat → Prop} (hs : w.heap.size ≤ w'.heap.size) (hk : ∀ (p : Addr) (v : Value), ¬ S p.block → p.block < w.heap.size → w.cell? p = some v → w'.cell? p = some v) : ∀ {d : Nat} {A : Option Addr} {n : Nat} {xs : List Pt}, PtN w S d A n xs → PtN w' S d A n xs
  | 0, _, _, _, h => h
  | d + 1, A, n, xs, h => ⟨h.1, h.2.1, fun hn => by
    obtain ⟨b, off, e, hq, hg, hc⟩ := h.2.2 hn
    refine ⟨b, off, e, hq, by omega, fun j x hx => ?_⟩
    obtain ⟨A', n', c', h1, ⟨k0, k1, k2, k3⟩, h3, h4⟩ := hc j x hx
    exact ⟨A', n', c', h1, ⟨hk _ _ hq hg k0, hk _ _ hq hg k1, hk _ _ hq hg k2, hk _ _ hq hg k3⟩, h3, PtN.keep hs hk h4⟩⟩
theorem PtN.below {w w' : World} {S : Nat → Prop} {d n : Nat} {A : Option Addr} {xs : List Pt} (h : PtN w S d A n xs) (hb : Below w.heap.size w w') : PtN w' S d A n xs := h.keep hb.size fun p v _ hl hv => (hb.cell (p := p) hl).trans hv
theorem PtN.set {w : World} {S : Nat → Prop} {d n : Nat} {A : Option Addr} {xs : List Pt} (h : PtN w S d A n xs) {a : Addr} (ha : S a.block) (u : Value) : PtN (w.setCell a u) S d A n xs := h.keep (Nat.le_of_eq (size_set _ _ _).symm) fun p v hq _ hv => (World.cell?_setCell_other w a p u (fun e => hq (by rw [← e]; exact ha))).trans hv
theorem PtN.up {w : World} {S : Nat → Prop} {d n : Nat} {A : Option Addr} {xs : List Pt} (h : PtN w S d A n xs) : PtN w S (d + 1) A n xs := by
  induction d generalizing A n xs with
  | zero => obtain ⟨rfl, rfl⟩ := h; exact ⟨rfl, Nat.zero_le _, fun h => absurd h (by omega)⟩
  | succ d ih => exact ⟨h.1, h.2.1, fun hn => by
      obtain ⟨b, off, e, hq, hg, hc⟩ := h.2.2 hn
      refine ⟨b, off, e, hq, hg, fun j x hx => ?_⟩
      obtain ⟨A', n', c', h1, h2, h3, h4⟩ := hc j x hx
      exact ⟨A', n', c', h1, h2, h3, ih h4⟩⟩
theorem PtN.ups {w : World} {S : Nat → Prop} {d n : Nat} {A : Option Addr} {xs : List Pt} (h : PtN w S d A n xs) : ∀ {e : Nat}, d ≤ e → PtN w S e A n xs
  | 0, he => by obtain rfl : d = 0 := by omega
                exact h
  | e + 1, he => by
    by_cases h2 : d = e + 1
    · rw [← h2]; exact h
    · exact (PtN.ups h (show d ≤ e by omega)).up
/-- A row of two trees. -/
theorem two_kids {w : World} {S : Nat → Prop} {g D n1 c1 n2 c2 : Nat} {x y : Pt} {A1 A2 : Option Addr} {cs : Array Value} (hr : RW 29 w g cs) (hgq : ¬ S g) (hc : cs = #[.int .i64 x.k, .int .i64 x.n, .string x.t, .slice A1 n1 c1, .int .i64 y.k, .int .i64 y.n, .string y.t, .slice A2 n2 c2]) (h1 : n1 ≤ c1) (h2 : n2 ≤ c2) (hxt : x.t.size ≤ maxLen) (hx : PtN w S D A1 n1 x.kids) (hyt : y.t.size ≤ maxLen) (hy : PtN w S D A2 n2 y.kids) :
    PtN w S (D + 1) (some ⟨g, 0, none⟩) 2 [x, y] := by
  subst hc
  refine ⟨rfl, by unfold maxLen; omega, fun _ => ⟨g, 0, rfl, hgq, hr.lt, fun j z hz => ?_⟩⟩
  match j, hz with
  | 0, hz =>
    simp only [List.getElem?_cons_zero, Option.some.injEq] at hz
    subst hz
    exact ⟨A1, n1, c1, h1, ⟨hr.cell 0, hr.cell 1, hr.cell 2, hr.cell 3⟩, hxt, hx⟩
  | 1, hz =>
    simp only [List.getElem?_cons_succ, List.getElem?_cons_zero, Option.some.injEq] at hz
    subst hz
    exact ⟨A2, n2, c2, h2, ⟨hr.cell 4, hr.cell 5, hr.cell 6, hr.cell 7⟩, hyt, hy⟩
  | j + 2, hz => simp at hz
end Go.Proofs.YtjeiiljdhnmofaaDoor
