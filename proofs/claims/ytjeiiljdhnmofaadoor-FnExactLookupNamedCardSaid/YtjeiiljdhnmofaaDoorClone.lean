/- Contract: clonePattern of the program at trees of few nodes: the copy is a tree of one's own. No condition but that. -/
import Derived.Test.YtjeiiljdhnmofaaDoorPtsToO
import Derived.Maps.AppendAt
namespace Go.Proofs.YtjeiiljdhnmofaaDoor
open Go Go.RowKit

/-- What a copy of a tree is: its own, in blocks that are new. -/
def ToCl (d n : Nat) (x : Pt) (W : World) (e : Ending) (w' : World) : Prop :=
  ∃ (A' : Option Addr) (c' : Nat), n ≤ c' ∧ e = .returned (x.ag A' n c') ∧ Hid ((x.t.size ≤ maxLen ∧ PtO w' d W.heap.size w'.heap.size A' n x.kids) ∧ Below W.heap.size W w')
/-- The elements of block g ahead of j are copies of one's own, the others as they were. -/
def FilledCo (W w : World) (g d j n : Nat) (xs : List Pt) : Prop :=
  ∃ (cs : Array Value) (ls : Nat → Nat), RW 29 w g cs ∧ n * 4 ≤ cs.size ∧ g < ls 0 ∧ (∀ i, ls i ≤ ls (i + 1)) ∧ (∀ i, ls i ≤ w.heap.size) ∧
    (∀ (i : Nat) (x : Pt), i < j → xs[i]? = some x → ∃ (A' : Option Addr) (n' c' : Nat), n' ≤ c' ∧ Row4 cs i x A' n' c' ∧ x.t.size ≤ maxLen ∧ PtO w d (ls i) (ls (i + 1)) A' n' x.kids) ∧
    (∀ (i : Nat) (x : Pt), j ≤ i → xs[i]? = some x → ∃ (A' : Option Addr) (n' c' : Nat), n' ≤ c' ∧ Row4 cs i x A' n' c' ∧ x.t.size ≤ maxLen ∧ PtD w 0 W.heap.size d A' n' x.kids)
theorem FilledCo.below {W w w' : World} {g d j n : Nat} {xs : List Pt} (h : FilledCo W w g d j n xs) (hb : Below w.heap.size w w') (hW : W.heap.size ≤ w.heap.size) : FilledCo W w' g d j n xs := by
  obtain ⟨cs, ls, hr, hc, hg, hm, hw, hf, ho⟩ := h
  refine ⟨cs, ls, hr.below hb hr.lt, hc, hg, hm, fun i => Nat.le_trans (hw i) hb.size, fun i x hi hx => ?_, fun i x hi hx => ?_⟩
  · obtain ⟨A', n', c', h1, h2, h3, h4⟩ := hf i x hi hx
    exact ⟨A', n', c', h1, h2, h3, h4.below hb (hw _) (Nat.le_refl _)⟩
  · obtain ⟨A', n', c', h1, h2, h3, h4⟩ := ho i x hi hx
    exact ⟨A', n', c', h1, h2, h3, h4.below (hb.mono hW)⟩
theorem FilledCo.cur {W w : World} {g d j n : Nat} {xs : List Pt} {x : Pt} (h : FilledCo W w g d j n xs) (hx : xs[j]? = some x) : ∃ (A' : Option Addr) (n' c' : Nat), n' ≤ c' ∧ PtAt w g (j * 4) x A' n' c' ∧ x.t.size ≤ maxLen ∧ PtD w 0 W.heap.size d A' n' x.kids := by
  obtain ⟨cs, ls, hr, hc, hg, hm, hw, hf, ho⟩ := h
  obtain ⟨A', n', c', h1, h2, h3, h4⟩ := ho j x (Nat.le_refl _) hx
  exact ⟨A', n', c', h1, ⟨(hr.cell _).trans (h2 0 _ rfl), (hr.cell _).trans (h2 1 _ rfl), (hr.cell _).trans (h2 2 _ rfl), (hr.cell _).trans (h2 3 _ rfl)⟩, h3, h4⟩
theorem FilledCo.store {W w w2 : World} {g d j n : Nat} {xs : List Pt} {x : Pt} {A' : Option Addr} {n' c' : Nat} (h : FilledCo W w g d j n xs) (hW : W.heap.size ≤ g) (hb : Below w.heap.size w w2) (hx : xs[j]? = some x) (hj : j < n) (hnc : n' ≤ c') (ht : x.t.size ≤ maxLen) (h5 : PtO w2 d w.heap.size w2.heap.size A' n' x.kids) :
    FilledCo W (w2.setCells g (j * 4) (x.vs A' n' c')) g d (j + 1) n xs := by
  obtain ⟨cs, ls, hr, hn, hg, hm, hw, hf, ho⟩ := h
  have hsz : (w2.setCells g (j * 4) (x.vs A' n' c')).heap.size = w2.heap.size := size_setsPt _ _ _ _
  have hgl := hr.lt
  have hkk : KeepO g (g + 1) w2 (w2.setCells g (j * 4) (x.vs A' n' c')) := keepO_cells _ _ _ _
  have h0i : ∀ i, g < ls i := fun i => Nat.lt_of_lt_of_le hg (ls_mono (n := i) (fun q _ => hm q) (Nat.zero_le i) (Nat.le_refl i))
  refine ⟨_, fun i => if i ≤ j then ls i else w2.heap.size, (hr.below hb hgl).cells, by rw [putL_size]; exact hn, ?_, ?_, ?_, ?_, ?_⟩
  · show g < (if 0 ≤ j then ls 0 else _)
    rw [if_pos (by omega)]
    exact hg
  · intro i
    show (if i ≤ j then ls i else _) ≤ (if i + 1 ≤ j then ls (i + 1) else _)
    by_cases h1 : i + 1 ≤ j
    · rw [if_pos (by omega), if_pos h1]; exact hm i
    · rw [if_neg h1]
      by_cases h2 : i ≤ j
      · rw [if_pos h2]; exact Nat.le_trans (hw i) hb.size
      · rw [if_neg h2]; exact Nat.le_refl _
  · intro i
    show (if i ≤ j then ls i else _) ≤ _
    rw [hsz]
    by_cases h2 : i ≤ j
    · rw [if_pos h2]; exact Nat.le_trans (hw i) hb.size
    · rw [if_neg h2]; exact Nat.le_refl _
  · intro i y hi hy
    show ∃ (A'' : Option Addr) (n'' c'' : Nat), n'' ≤ c'' ∧ Row4 _ i y A'' n'' c'' ∧ _ ∧ PtO _ d (if i ≤ j then ls i else w2.heap.size) (if i + 1 ≤ j then ls (i + 1) else w2.heap.size) A'' n'' y.kids
    by_cases e : i = j
    · subst e
      rw [hx, Option.some.injEq] at hy
      subst hy
      rw [if_pos (Nat.le_refl _), if_neg (by omega)]
      exact ⟨A', n', c', hnc, row4_store (by omega), ht, (h5.keep hkk (.inr (by omega))).mono (hw i) (Nat.le_refl _)⟩
    · obtain ⟨A'', n'', c'', k0, k1, k2, k3⟩ := hf i y (by omega) hy
      have := h0i i
      rw [if_pos (by omega), if_pos (by omega)]
      exact ⟨A'', n'', c'', k0, row4_other k1 (by omega), k2, ((k3.below hb (hw _) (Nat.le_refl _)).keep hkk (.inr (by omega)))⟩
  · intro i y hi hy
    obtain ⟨A'', n'', c'', k0, k1, k2, k3⟩ := ho i y (by omega) hy
    refine ⟨A'', n'', c'', k0, fun q v hq => ?_, k2, PtD.others (.inr hW) (k3.below (hb.mono (by omega)))⟩
    have hq4 : q < 4 := (List.getElem?_eq_some_iff.1 hq).1
    have := k1 q v hq
    rw [← this]
    have : ∀ (vs : List Value) (cs : Array Value) (o p : Nat), o + vs.length ≤ p → (putL cs o vs)[p]? = cs[p]? := by
      intro vs
      induction vs with
      | nil => intro cs o p _; rfl
      | cons u r ih => intro cs o p hp; simp only [List.length_cons] at hp; rw [putL, ih _ _ _ (by omega), Array.getElem?_setIfInBounds_ne (by omega)]
    exact this _ _ _ _ (by rw [show (x.vs A' n' c').length = 4 from rfl]; omega)
theorem FilledCo.all {W w : World} {g d n : Nat} {xs : List Pt} (h : FilledCo W w g d n n xs) (hl : xs.length = n) (hn : n ≤ maxLen) : PtO w (d + 1) g w.heap.size (some ⟨g, 0, none⟩) n xs := by
  obtain ⟨cs, ls, hr, hc, hg, hm, hw, hf, _⟩ := h
  refine ⟨hl, hn, fun _ => ⟨g, cs, ls, rfl, Nat.le_refl _, hg, hw n, fun j _ => hm j, hr, hc, fun j x hx => ?_⟩⟩
  exact hf j x (by rw [← hl]; exact (List.getElem?_eq_some_iff.1 hx).1) hx
/-- The cells of the elements of a slice of trees, one behind the other. -/
theorem PtD.flat {w : World} {lo B d n : Nat} {A : Option Addr} {xs : List Pt} (h : PtD w lo B (d + 1) A n xs) (hn : 0 < n) : ∃ (b off : Nat) (news : List Value), A = some ⟨b, off, none⟩ ∧ b < B ∧ news.length = n * 4 ∧ (∀ j u, news[j]? = some u → w.cell? ⟨b, off + j, none⟩ = some u) ∧ (∀ u ∈ news, u.oneCell' = true) ∧
    ∀ (j : Nat) (x : Pt), xs[j]? = some x → ∃ (A' : Option Addr) (n' c' : Nat), n' ≤ c' ∧ (∀ q v, (x.vs A' n' c')[q]? = some v → news[j * 4 + q]? = some v) ∧ x.t.size ≤ maxLen ∧ PtD w lo B d A' n' x.kids := by
  obtain ⟨b, off, e, hl, hg, hc⟩ := h.2.2 hn
  have hlen := h.1
  clear h
  suffices H : ∀ (m : Nat), m ≤ n → ∃ news : List Value, news.length = m * 4 ∧ (∀ j u, news[j]? = some u → w.cell? ⟨b, off + j, none⟩ = some u) ∧ (∀ u ∈ news, u.oneCell' = true) ∧ ∀ (j : Nat) (x : Pt), j < m → xs[j]? = some x → ∃ (A' : Option Addr) (n' c' : Nat), n' ≤ c' ∧ (∀ q v, (x.vs A' n' c')[q]? = some v → news[j * 4 + q]? = some v) ∧ x.t.size ≤ maxLen ∧ PtD w lo B d A' n' x.kids by
    obtain ⟨news, h1, h2, h3, h4⟩ := H n (Nat.le_refl _)
    exact ⟨b, off, news, e, hg, h1, h2, h3, fun j x hx => h4 j x (by rw [← hlen]; exact (List.getElem?_eq_some_iff.1 hx).1) hx⟩
  intro m
  induction m with
  | zero => exact fun _ => ⟨[], by simp, fun j u h => by simp at h, fun u h => by simp at h, fun j x h => absurd h (by omega)⟩
  | succ m ih =>
    intro hm
    obtain ⟨news, h1, h2, h3, h4⟩ := ih (by omega)
    obtain ⟨x, hx⟩ : ∃ x, xs[m]? = some x := ⟨_, List.getElem?_eq_getElem (by omega)⟩
    obtain ⟨A', n', c', k1, k2, k3, k4⟩ := hc m x hx
    refine ⟨news ++ x.vs A' n' c', by simp [Pt.vs]; omega, fun j u hj => ?_, fun u hu => ?_, fun j y hj hy => ?_⟩
    · rcases Nat.lt_or_ge j (m * 4) with hlt | hge
      · rw [List.getElem?_append_left (by omega)] at hj
        exact h2 j u hj
      · rw [List.getElem?_append_right (by omega)] at hj
        have := k2.range (j - news.length) u hj
        rw [show off + m * 4 + (j - news.length) = off + j from by omega] at this
        exact this
    · rcases List.mem_append.1 hu with h | h
      · exact h3 u h
      · simp only [Pt.vs, List.mem_cons, List.not_mem_nil, or_false] at h
        rcases h with rfl | rfl | rfl | rfl <;> rfl
    · by_cases e2 : j = m
      · subst e2
        rw [hx, Option.some.injEq] at hy
        subst hy
        exact ⟨A', n', c', k1, fun q v hq => by rw [List.getElem?_append_right (by omega), show j * 4 + q - news.length = q from by omega]; exact hq, k3, k4⟩
      · obtain ⟨A'', n'', c'', m1, m2, m3, m4⟩ := h4 j y (by omega) hy
        exact ⟨A'', n'', c'', m1, fun q v hq => by
          have hq4 : q < 4 := (List.getElem?_eq_some_iff.1 hq).1
          rw [List.getElem?_append_left (by omega)]; exact m2 q v hq, m3, m4⟩
theorem FilledCo.other {W w : World} {g d j n : Nat} {xs : List Pt} (h : FilledCo W w g d j n xs) {q : Addr} (h1 : W.heap.size ≤ q.block) (h2 : q.block < g) (u : Value) : FilledCo W (w.setCell q u) g d j n xs := by
  obtain ⟨cs, ls, hr, hc, hg, hm, hw, hf, ho⟩ := h
  have h0i : ∀ i, g < ls i := fun i => Nat.lt_of_lt_of_le hg (ls_mono (n := i) (fun q _ => hm q) (Nat.zero_le i) (Nat.le_refl i))
  refine ⟨cs, ls, hr.other (by omega) u, hc, hg, hm, fun i => by rw [size_set]; exact hw i, fun i x hi hx => ?_, fun i x hi hx => ?_⟩
  · obtain ⟨A', n', c', k1, k2, k3, k4⟩ := hf i x hi hx
    have := h0i i
    exact ⟨A', n', c', k1, k2, k3, k4.keep (KeepO.set w (Nat.le_refl _) (Nat.lt_succ_self _) u) (.inr (by omega))⟩
  · obtain ⟨A', n', c', k1, k2, k3, k4⟩ := ho i x hi hx
    exact ⟨A', n', c', k1, k2, k3, k4.other (.inr h1) u⟩
/-- What a round of the loop carries: the two boxes, the row, the element at hand and its box. -/
def ClSt (W : World) (k m : Int) (t : ByteArray) (ks : List Pt) (n cap d j q : Nat) (y : Pt) (A1 : Option Addr) (n1 c1 : Nat) (w : World) : Prop :=
  RW 29 w W.heap.size #[.int .i64 k, .int .i64 m, .string t, .slice (some ⟨W.heap.size + 2, 0, none⟩) n cap] ∧ RW 29 w (W.heap.size + 1) #[.int .i64 0, .int .i64 0, .string ⟨#[]⟩, .slice none 0 0] ∧ FilledCo W w (W.heap.size + 2) d j n ks ∧ Below W.heap.size W w ∧
  RW 29 w q #[.int .i64 y.k, .int .i64 y.n, .string y.t, .slice A1 n1 c1] ∧ PtD w 0 W.heap.size d A1 n1 y.kids
abbrev FlatCl (W : World) (k m : Int) (t : ByteArray) (ks : List Pt) (n cap d j q : Nat) (y : Pt) (A1 : Option Addr) (n1 c1 : Nat) (w : World) : Prop :=
  w.cell? ⟨W.heap.size, 3, none⟩ = some (.slice (some ⟨W.heap.size + 2, 0, none⟩) n cap) ∧ (w.cell? ⟨q, 0, none⟩ = some (.int .i64 y.k) ∧ w.cell? ⟨q, 1, none⟩ = some (.int .i64 y.n) ∧ w.cell? ⟨q, 2, none⟩ = some (.string y.t) ∧ w.cell? ⟨q, 3, none⟩ = some (.slice A1 n1 c1)) ∧ ClSt W k m t ks n cap d j q y A1 n1 c1 w
theorem ClSt.grow {W w w' : World} {k m : Int} {t : ByteArray} {ks : List Pt} {n cap d j q n1 c1 : Nat} {y : Pt} {A1 : Option Addr} (h : ClSt W k m t ks n cap d j q y A1 n1 c1 w) (hb : Below w.heap.size w w') : ClSt W k m t ks n cap d j q y A1 n1 c1 w' :=
  ⟨h.1.below hb h.1.lt, h.2.1.below hb h.2.1.lt, h.2.2.1.below hb h.2.2.2.1.size, h.2.2.2.1.trans (hb.mono h.2.2.2.1.size), h.2.2.2.2.1.below hb h.2.2.2.2.1.lt, h.2.2.2.2.2.below (hb.mono h.2.2.2.1.size)⟩
theorem ClSt.flat {W w : World} {k m : Int} {t : ByteArray} {ks : List Pt} {n cap d j q n1 c1 : Nat} {y : Pt} {A1 : Option Addr} (h : ClSt W k m t ks n cap d j q y A1 n1 c1 w) : FlatCl W k m t ks n cap d j q y A1 n1 c1 w :=
  ⟨h.1.cell 3, ⟨h.2.2.2.2.1.cell 0, h.2.2.2.2.1.cell 1, h.2.2.2.2.1.cell 2, h.2.2.2.2.1.cell 3⟩, h⟩
/-- What the region of a round reads. -/
abbrev FlatC2 (W : World) (k m : Int) (t : ByteArray) (n cap q : Nat) (y : Pt) (A1 : Option Addr) (n1 c1 : Nat) (w : World) : Prop :=
  w.cell? ⟨W.heap.size, 3, none⟩ = some (.slice (some ⟨W.heap.size + 2, 0, none⟩) n cap) ∧ (w.cell? ⟨q, 0, none⟩ = some (.int .i64 y.k) ∧ w.cell? ⟨q, 1, none⟩ = some (.int .i64 y.n) ∧ w.cell? ⟨q, 2, none⟩ = some (.string y.t) ∧ w.cell? ⟨q, 3, none⟩ = some (.slice A1 n1 c1))
theorem ClSt.flat2 {W w : World} {k m : Int} {t : ByteArray} {ks : List Pt} {n cap d j q n1 c1 : Nat} {y : Pt} {A1 : Option Addr} (h : ClSt W k m t ks n cap d j q y A1 n1 c1 w) : FlatC2 W k m t n cap q y A1 n1 c1 w := ⟨h.flat.1, h.flat.2.1⟩
theorem ClSt.flat3 {W w : World} {k m : Int} {t : ByteArray} {ks : List Pt} {n cap d j q n1 c1 : Nat} {y : Pt} {A1 : Option Addr} (h : ClSt W k m t ks n cap d j q y A1 n1 c1 w) (hq : q ≠ W.heap.size + 2) (vs : List Value) (o : Nat) : FlatC2 W k m t n cap q y A1 n1 c1 (w.setCells (W.heap.size + 2) o vs) :=
  ⟨(RW.others (by omega) h.1).cell 3, (RW.others hq h.2.2.2.2.1).cell 0, (RW.others hq h.2.2.2.2.1).cell 1, (RW.others hq h.2.2.2.2.1).cell 2, (RW.others hq h.2.2.2.2.1).cell 3⟩
theorem sets4 (w : World) (g o : Nat) (a b c d : Value) : (((w.setCell ⟨g, o, none⟩ a).setCell ⟨g, o + 1, none⟩ b).setCell ⟨g, o + 2, none⟩ c).setCell ⟨g, o + 3, none⟩ d = w.setCells g o [a, b, c, d] := rfl
theorem FilledCo.lt {W w : World} {g d j n : Nat} {xs : List Pt} (h : FilledCo W w g d j n xs) : g < w.heap.size := by obtain ⟨cs, ls, hr, _⟩ := h; exact hr.lt
theorem FilledCo.there {W w : World} {g d j n i : Nat} {xs : List Pt} (h : FilledCo W w g d j n xs) (hi : i < n) : ∃ u0 u1 u2 u3, (w.cell? ⟨g, i * 4, none⟩ = some u0 ∧ w.cell? ⟨g, i * 4 + 1, none⟩ = some u1 ∧ w.cell? ⟨g, i * 4 + 2, none⟩ = some u2 ∧ w.cell? ⟨g, i * 4 + 3, none⟩ = some u3) ∧ w.frozen? ⟨g, i * 4, none⟩ = false ∧ w.frozen? ⟨g, i * 4 + 1, none⟩ = false ∧ w.frozen? ⟨g, i * 4 + 2, none⟩ = false ∧ w.frozen? ⟨g, i * 4 + 3, none⟩ = false := by
  obtain ⟨cs, ls, hr, hc, _⟩ := h
  exact ⟨cs[i * 4], cs[i * 4 + 1], cs[i * 4 + 2], cs[i * 4 + 3], ⟨(hr.cell _).trans (Array.getElem?_eq_getElem (by omega)), (hr.cell _).trans (Array.getElem?_eq_getElem (by omega)), (hr.cell _).trans (Array.getElem?_eq_getElem (by omega)), (hr.cell _).trans (Array.getElem?_eq_getElem (by omega))⟩, hr.frozen _, hr.frozen _, hr.frozen _, hr.frozen _⟩
theorem zero_world (W : World) (c0 c1 : Array Value) (v : Value) : RW 29 (((W.alloc (.cells c0 29)).alloc (.cells c1 29)).setCell ⟨W.heap.size, 3, none⟩ v) W.heap.size (c0.setIfInBounds 3 v) ∧ RW 29 (((W.alloc (.cells c0 29)).alloc (.cells c1 29)).setCell ⟨W.heap.size, 3, none⟩ v) (W.heap.size + 1) c1 ∧ Below W.heap.size W (((W.alloc (.cells c0 29)).alloc (.cells c1 29)).setCell ⟨W.heap.size, 3, none⟩ v) := by
  obtain ⟨h0, h1, h2, _⟩ := two_new W 29 c0 c1 _ rfl
  exact ⟨h0.set_ 3 v, h1.other (by simp) v, h2.trans (below_set _ (p := ⟨W.heap.size, 3, none⟩) (Nat.le_refl _) v)⟩
/-- A row that an append has just made. -/
theorem own_row4 {w : World} {B X n : Nat} {T : TypeId} {v v0 : Value} {news : List Value} (hn : 0 < n) (h : w.ownsRow B T 4 v (0 + n) ([] ++ news)) (hor : v.ownBlock = v0.ownBlock ∨ v.ownBlock = some X) (h0 : v0 = .slice none 0 0) :
    ∃ cap cs, v = .slice (some ⟨X, 0, none⟩) n cap ∧ n ≤ cap ∧ RW T w X cs ∧ n * 4 ≤ cs.size ∧ ∀ j, j < n * 4 → cs[j]? = news[j]? := by
  subst h0
  rcases h.2 with ⟨_, h1⟩ | ⟨g, cap, cur, rfl, _, hh, hc, _, hs, ht⟩
  · omega
  · have e : g = X := by
      rcases hor with e | e
      · simp [Value.ownBlock] at e
      · simpa [Value.ownBlock] using e
    subst e
    refine ⟨cap, cur, by rw [Nat.zero_add], by omega, hh, by rw [hs]; exact Nat.mul_le_mul_right 4 (by omega), fun j hj => ?_⟩
    have := congrArg (·[j]?) ht
    simp only [List.getElem?_take, Nat.zero_add, if_pos hj, List.nil_append] at this
    rw [← this, Array.getElem?_toList]
/-- The row as the append has made it: the elements as they were. -/
theorem FilledCo.start {W w : World} {g d n : Nat} {xs : List Pt} {cs : Array Value} {news : List Value} (hr : RW 29 w g cs) (hc : n * 4 ≤ cs.size) (hj : ∀ j, j < n * 4 → cs[j]? = news[j]?) (hl : xs.length = n) (hb : Below W.heap.size W w)
    (hx : ∀ (j : Nat) (x : Pt), xs[j]? = some x → ∃ (A' : Option Addr) (n' c' : Nat), n' ≤ c' ∧ (∀ q v, (x.vs A' n' c')[q]? = some v → news[j * 4 + q]? = some v) ∧ x.t.size ≤ maxLen ∧ PtD W 0 W.heap.size d A' n' x.kids) : FilledCo W w g d 0 n xs := by
  refine ⟨cs, fun _ => w.heap.size, hr, hc, hr.lt, fun _ => Nat.le_refl _, fun _ => Nat.le_refl _, fun i x hi => absurd hi (by omega), fun i x _ hi => ?_⟩
  obtain ⟨A', n', c', k1, k2, k3, k4⟩ := hx i x hi
  have hin := (List.getElem?_eq_some_iff.1 hi).1
  exact ⟨A', n', c', k1, fun q v hq => by
    have hq4 : q < 4 := (List.getElem?_eq_some_iff.1 hq).1
    rw [hj _ (by omega)]; exact k2 q v hq, k3, k4.below hb⟩
end Go.Proofs.YtjeiiljdhnmofaaDoor
