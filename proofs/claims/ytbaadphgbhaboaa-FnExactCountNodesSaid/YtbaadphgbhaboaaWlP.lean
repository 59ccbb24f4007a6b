/- Plain: comparing two trees by a list of pairs that wait and a list of pairs that were compared, whatever the trees are. No condition. -/
import Derived.Test.YtbaadphgbhaboaaAMap
namespace Go.Proofs.Ytbaadphgbhaboaa
open Go Go.RowKit

section
variable {T : Type} (kids : T → List T) (hd : T → T → Prop) (sz : T → Nat)

structure Wl (a b : T) (C S : List (T × T)) : Prop where
  clo : ∀ p ∈ C, hd p.1 p.2 ∧ ∀ (i : Nat) (x y : T), (kids p.1)[i]? = some x → (kids p.2)[i]? = some y → (x, y) ∈ C ∨ (x, y) ∈ S ∨ x = y
  root : (a, b) ∈ C ∨ (a, b) ∈ S ∨ a = b
  all : a = b → ∀ p ∈ S, p.1 = p.2

/-- What is asked of the trees. -/
structure WlOk : Prop where
  refl : ∀ x, hd x x
  ext : ∀ x y, hd x y → kids x = kids y → x = y
  len : ∀ x y, hd x y → (kids x).length = (kids y).length
  pos : ∀ x, 0 < sz x
  kid : ∀ x, ((kids x).map sz).sum < sz x

variable {kids hd sz} {a b x y : T} {C S : List (T × T)}

theorem Wl.start (a b : T) : Wl kids hd a b [] [(a, b)] :=
  ⟨fun p h => absurd h (by simp), .inr (.inl (by simp)), fun e p hp => (by simp only [List.mem_singleton] at hp; rw [hp]; exact e)⟩

theorem Wl.drop (h : Wl kids hd a b C (S ++ [(x, y)])) (hk : (x, y) ∈ C ∨ x = y) : Wl kids hd a b C S := by
  have key : ∀ u v : T, ((u, v) ∈ C ∨ (u, v) ∈ S ++ [(x, y)] ∨ u = v) → (u, v) ∈ C ∨ (u, v) ∈ S ∨ u = v := by
    rintro u v (h1 | h1 | h1)
    · exact .inl h1
    · rcases List.mem_append.1 h1 with h2 | h2
      · exact .inr (.inl h2)
      · simp only [List.mem_singleton, Prod.mk.injEq] at h2
        obtain ⟨rfl, rfl⟩ := h2
        rcases hk with h3 | h3
        · exact .inl h3
        · exact .inr (.inr h3)
    · exact .inr (.inr h1)
  exact ⟨fun p hp => ⟨(h.clo p hp).1, fun i u v hu hv => key u v ((h.clo p hp).2 i u v hu hv)⟩, key a b h.root, fun e p hp => h.all e p (by simp [hp])⟩

theorem Wl.leaf (O : WlOk kids hd sz) (h : Wl kids hd a b C (S ++ [(x, y)])) (hxy : hd x y) (hx : kids x = []) : Wl kids hd a b C S :=
  h.drop (.inr (O.ext x y hxy (by
    have := O.len x y hxy
    rw [hx] at this
    rw [hx, List.eq_nil_of_length_eq_zero this.symm])))

theorem Wl.expand (h : Wl kids hd a b C (S ++ [(x, y)])) (hxy : hd x y) : Wl kids hd a b (C ++ [(x, y)]) (S ++ (kids x).zip (kids y)) := by
  have key : ∀ u v : T, ((u, v) ∈ C ∨ (u, v) ∈ S ++ [(x, y)] ∨ u = v) → (u, v) ∈ C ++ [(x, y)] ∨ (u, v) ∈ S ++ (kids x).zip (kids y) ∨ u = v := by
    rintro u v (h1 | h1 | h1)
    · exact .inl (by simp [h1])
    · rcases List.mem_append.1 h1 with h2 | h2
      · exact .inr (.inl (by simp [h2]))
      · exact .inl (List.mem_append.2 (.inr h2))
    · exact .inr (.inr h1)
  refine ⟨fun p hp => ?_, key a b h.root, fun e p hp => ?_⟩
  · rcases List.mem_append.1 hp with h2 | h2
    · exact ⟨(h.clo p h2).1, fun i u v hu hv => key u v ((h.clo p h2).2 i u v hu hv)⟩
    · simp only [List.mem_singleton] at h2
      subst h2
      refine ⟨hxy, fun i u v hu hv => .inr (.inl (List.mem_append.2 (.inr ?_)))⟩
      refine List.mem_of_getElem? (i := i) ?_
      simp only [List.getElem?_zip_eq_some]
      exact ⟨hu, hv⟩
  · rcases List.mem_append.1 hp with h2 | h2
    · exact h.all e p (by simp [h2])
    · have hxy' : x = y := h.all e (x, y) (by simp)
      subst hxy'
      obtain ⟨i, hi⟩ := List.getElem?_of_mem h2
      obtain ⟨p1, p2⟩ := p
      simp only [List.getElem?_zip_eq_some] at hi
      exact Option.some.inj (hi.1.symm.trans hi.2)

theorem Wl.no (O : WlOk kids hd sz) (h : Wl kids hd a b C (S ++ [(x, y)])) (hn : ¬ hd x y) : a ≠ b := fun e => hn (by
  have : x = y := h.all e (x, y) (by simp)
  rw [this]
  exact O.refl y)

theorem sz_mem {l : List T} {t : T} (h : t ∈ l) : sz t ≤ (l.map sz).sum := by
  induction l with
  | nil => cases h
  | cons u r ih =>
    rcases List.mem_cons.1 h with rfl | h
    · simp
    · have := ih h
      simp
      omega

theorem Wl.done (O : WlOk kids hd sz) (h : Wl kids hd a b C []) : a = b := by
  have key : ∀ (n : Nat) (u v : T), sz u ≤ n → (u, v) ∈ C → u = v := by
    intro n
    induction n with
    | zero => intro u v hu _; have := O.pos u; omega
    | succ n ih =>
      intro u v hu hm
      obtain ⟨h1, h2⟩ := h.clo _ hm
      refine O.ext u v h1 (List.ext_getElem? fun i => ?_)
      have hl := O.len u v h1
      by_cases hi : i < (kids u).length
      · have e1 : (kids u)[i]? = some (kids u)[i] := List.getElem?_eq_getElem hi
        have e2 : (kids v)[i]? = some (kids v)[i] := List.getElem?_eq_getElem (by omega)
        rw [e1, e2]
        congr 1
        rcases h2 i _ _ e1 e2 with h3 | h3 | h3
        · refine ih _ _ ?_ h3
          have := sz_mem (sz := sz) (List.mem_of_getElem? e1)
          have := O.kid u
          omega
        · cases h3
        · exact h3
      · rw [List.getElem?_eq_none (by omega), List.getElem?_eq_none (by omega)]
  rcases h.root with h1 | h1 | h1
  · exact key _ _ _ (Nat.le_refl _) h1
  · cases h1
  · exact h1

/-- How much waits. -/
def wlN (sz : T → Nat) (S : List (T × T)) : Nat := (S.map fun p => sz p.1).sum
theorem wlN_append (S R : List (T × T)) : wlN sz (S ++ R) = wlN sz S + wlN sz R := by simp [wlN]
theorem wlN_len (O : WlOk kids hd sz) : ∀ S : List (T × T), S.length ≤ wlN sz S
  | [] => Nat.zero_le _
  | p :: r => by
    have := wlN_len O r
    have := O.pos p.1
    simp only [wlN, List.map_cons, List.sum_cons, List.length_cons] at *
    omega
theorem wlN_zip : ∀ (l r : List T), l.length = r.length → wlN sz (l.zip r) = (l.map sz).sum
  | [], _, _ => by simp [wlN]
  | u :: l, [], h => by simp at h
  | u :: l, v :: r, h => by
    have := wlN_zip l r (by simpa using h)
    simp only [wlN, List.zip_cons_cons, List.map_cons, List.sum_cons] at *
    rw [this]
end
end Go.Proofs.Ytbaadphgbhaboaa
