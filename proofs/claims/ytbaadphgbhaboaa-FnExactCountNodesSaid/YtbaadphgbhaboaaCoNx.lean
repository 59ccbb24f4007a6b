/- Contract: countNext of the program. No condition. -/
import Derived.Test.YtbaadphgbhaboaaCoAdd
import Derived.BigQuiet
import Derived.Maps.AppendAt
import Derived.Maps.OwnOps
namespace Go.Proofs.Ytbaadphgbhaboaa
open Go Go.RowKit

theorem AddP.grown {g o i t s : Nat} {W w' : World} (h : AddP g o i t s W w') : W.grownBy w' (some g) := by
  unfold AddP at h
  subst h
  refine ⟨rfl, rfl, rfl, by simp [World.setCell, World.drew], fun k hk hne => ?_⟩
  have h1 : k ≠ g := fun e => hne (by rw [e])
  exact (Below.heap_setCell _ ⟨g, o + 2, none⟩ _ k h1).trans (Below.heap_setCell W ⟨g, o + 1, none⟩ _ k h1)
theorem AddP.row {g i t s n base T cap : Nat} {W w' : World} {pre : List Value} {a : Value} (h : AddP g (n * 3) i t s W w') (hr : W.ownsRow base T 3 (.slice (some ⟨g, 0, none⟩) (n + 1) cap) (n + 1) (pre ++ [a, .int .i64 (i : Int), .int .i64 (t : Int)])) (hp : pre.length = n * 3) :
    w'.ownsRow base T 3 (.slice (some ⟨g, 0, none⟩) (n + 1) cap) (n + 1) (pre ++ [a, .int .i64 ((i + 1 : Nat) : Int), .int .i64 ((t + (1 + s) : Nat) : Int)]) := by
  unfold AddP at h
  subst h
  exact ownsRow_top hr hp

def rootF : Fm → List Fm → Fm
  | T, [] => T
  | _, f :: R => rootF f R
/-- What holds at the loop's head: T is counted on, for the sake of R, nearest first; kvs: what the map holds; back: the Kids of the node at hand have just been counted. -/
def InvC (w1 : World) (B d bm : Nat) (p : Pt) (T : Fm) (R : List Fm) (kvs : List (Value × Value)) (back : Bool) (v : Value) (w : World) : Prop :=
  FrG w1 B w ∧ (∀ f ∈ T :: R, f.Ok w1 B d) ∧ Chn w1 T R ∧ Fnd kvs T R ∧ (∀ q ∈ kvs, ∃ e : Ky, q.1 = e.key ∧ e.Ok w1 B d) ∧
  (∀ e : Ky, e.Ok w1 B d → getA kvs e.key = none ∨ getA kvs e.key = some (.int .i64 ((sN e.l : Nat) : Int)) ∨ ∃ f ∈ T :: R, f.key = e.key) ∧
  (bm < B ∧ ¬ Good w1 bm ∧ AMap w bm kvs) ∧ w.ownsRow B 89 3 v (R.length + 1) ((T :: R).reverse.flatMap Fm.vs) ∧ (rootF T R).l = [p] ∧ ptN p ≤ 2000000 ∧
  (back = true → ∃ z A' n' c', CurAt w1 T z A' n' c' ∧ getA kvs (keyL A' n') = some (.int .i64 ((sN z.kids : Nat) : Int)))
theorem root_sum {w : World} : ∀ {R : List Fm} {T : Fm}, Chn w T R → sN T.l ≤ sN (rootF T R).l
  | [], _, _ => Nat.le_refl _
  | f :: R, T, h => by
    have h1 := chn_sum h f (by simp)
    have h2 := root_sum h.2
    exact Nat.le_trans (Nat.le_of_lt h1) h2
theorem stack_len {w : World} : ∀ {R : List Fm} {T : Fm}, Chn w T R → R.length + sN T.l ≤ sN (rootF T R).l
  | [], _, _ => by simp [rootF]
  | f :: R, T, h => by
    have h1 := chn_sum h f (by simp)
    have h2 := stack_len h.2
    simp only [List.length_cons, rootF]
    omega
theorem link_more {w : World} {T f : Fm} {T' : Fm} (h : Link w f T) (e1 : T'.A = T.A) (e2 : T'.l = T.l) : Link w f T' := by
  obtain ⟨z, n', c', h1, h2, h3⟩ := h
  exact ⟨z, n', c', by rw [e1]; exact h1, by rw [e2]; exact h2, by rw [e2]; exact h3⟩
theorem chn_next {w : World} {T : Fm} {R : List Fm} (h : Chn w T R) (i : Nat) : Chn w { T with i := i } R := by
  cases R with
  | nil => trivial
  | cons f R => exact ⟨link_more h.1 rfl rfl, h.2⟩
theorem fnd_next {kvs : List (Value × Value)} {T : Fm} {R : List Fm} (h : Fnd kvs T R) (i : Nat) : Fnd kvs { T with i := i } R := by
  cases R with
  | nil => trivial
  | cons f R => exact h
theorem root_next (T : Fm) (R : List Fm) (i : Nat) : (rootF { T with i := i } R).l = (rootF T R).l := by
  cases R with
  | nil => rfl
  | cons f R => rfl
theorem infoNc : (Try.prog.info? 89).map (fun i => (i.zero, i.size, i.bytes)) = some (some (.agg #[.slice none 0 0, .int .i64 0, .int .i64 0]), 3, 40) := by kernel_rfl
theorem ncRow_lt {w : World} {base T s n : Nat} {v : Value} {xs : List Value} (h : w.ownsRow base T s v n xs) {g : Nat} (hg : v.ownBlock = some g) : base ≤ g ∧ g < w.heap.size := by
  obtain ⟨h0, h1 | ⟨g', cap, cur, h1, h2, h3, h4⟩⟩ := h
  · rw [h1.1] at hg; cases hg
  · rw [h1] at hg
    simp only [Value.ownBlock, Option.some.injEq] at hg
    subst hg
    exact ⟨h2, RW.lt h3⟩
/-- What comes of counting one node more. -/
def NextC (W w1 : World) (B d bm : Nat) (p : Pt) (ph : Nat) (e : Ending) (w' : World) : Prop :=
  ∃ (T : Fm) (R : List Fm) (kvs : List (Value × Value)) (A : Option Addr) (m c : Nat), e = .returned (.slice A m c) ∧ Hid (m = R.length + 1 ∧ InvC w1 B d bm p T R kvs false (.slice A m c) w' ∧ phi1 T false + phiR R < ph ∧ Below W.heap.size W w')
/-- The node at hand counted: its Kids' number s. -/
theorem next_add {W w1 w w' : World} {B d bm : Nat} {p : Pt} {T : Fm} {R : List Fm} {kvs : List (Value × Value)} {back : Bool} {g c : Nat} {z : Pt} (h : InvC w1 B d bm p T R kvs back (.slice (some ⟨g, 0, none⟩) (R.length + 1) c) w) (hz : T.l[T.i]? = some z)
    (ha : AddP g (R.length * 3) T.i (sN (T.l.take T.i)) (sN z.kids) w w') (hW : Below W.heap.size W w) (hWB : W.heap.size ≤ B) :
    ∃ T', InvC w1 B d bm p T' R kvs false (.slice (some ⟨g, 0, none⟩) (R.length + 1) c) w' ∧ phi1 T' false + phiR R < phi1 T back + phiR R ∧ Below W.heap.size W w' := by
  obtain ⟨h1, h2, h3, h4, h5, h6, h7, h8, h9, h10, _⟩ := h
  have hg := ncRow_lt h8 (g := g) rfl
  have hgr := ha.grown
  have hti : T.i < T.l.length := (List.getElem?_eq_some_iff.1 hz).1
  refine ⟨{ T with i := T.i + 1 }, ⟨h1.grown hgr (fun k hk hkB => by cases hk; omega), ?_, chn_next h3 _, fnd_next h4 _, h5, ?_, ⟨h7.1, h7.2.1, h7.2.2.kept hgr (by have := h7.1; simp only [ne_eq, Option.some.injEq]; omega)⟩, ?_, by rw [root_next]; exact h9, h10, fun h => by cases h⟩, ?_, hW.grown hgr hW.size (fun k hk => by cases hk; omega)⟩
  · intro f hf
    rcases List.mem_cons.1 hf with rfl | hf
    · have := h2 T (by simp)
      exact ⟨this.1, hti, this.2.2⟩
    · exact h2 f (by simp [hf])
  · intro e he
    rcases h6 e he with k | k | ⟨f, hf, k⟩
    · exact .inl k
    · exact .inr (.inl k)
    · refine .inr (.inr ?_)
      rcases List.mem_cons.1 hf with rfl | hf
      · exact ⟨{ f with i := f.i + 1 }, by simp, k⟩
      · exact ⟨f, by simp [hf], k⟩
  · rw [List.reverse_cons, List.flatMap_append] at h8 ⊢
    have hl : (R.reverse.flatMap Fm.vs).length = R.length * 3 := by rw [fm_len, List.length_reverse]
    have := ha.row (pre := R.reverse.flatMap Fm.vs) (by simpa [Fm.vs] using h8) hl
    simp only [List.flatMap_cons, List.flatMap_nil, List.append_nil, Fm.vs]
    rw [sN_take hz, sN_kids z]
    exact this
  · have e := sN_drop hz
    have := sN_kids z
    unfold phi1
    cases back
    · simp only [Bool.false_eq_true, if_false]
      omega
    · simp only [Bool.false_eq_true, if_false, if_true]
      omega
end Go.Proofs.Ytbaadphgbhaboaa
