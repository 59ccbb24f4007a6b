/- Plain: the list of pairs that wait, taken at its head; a pair with the same Kids as a pair that was compared. No condition. -/
import Derived.Test.YtbaadphgbhaboaaWlP
namespace Go.Proofs.Ytbaadphgbhaboaa
open Go Go.RowKit

section
variable {T : Type} {kids : T → List T} {hd : T → T → Prop} {sz : T → Nat} {a b x y : T} {C S R : List (T × T)}
theorem Wl.congr (h : Wl kids hd a b C S) (hs : ∀ p, p ∈ S ↔ p ∈ R) : Wl kids hd a b C R := by
  refine ⟨fun p hp => ⟨(h.clo p hp).1, fun i u v hu hv => ?_⟩, ?_, fun e p hp => h.all e p ((hs p).2 hp)⟩
  · rcases (h.clo p hp).2 i u v hu hv with h1 | h1 | h1
    · exact .inl h1
    · exact .inr (.inl ((hs _).1 h1))
    · exact .inr (.inr h1)
  · rcases h.root with h1 | h1 | h1
    · exact .inl h1
    · exact .inr (.inl ((hs _).1 h1))
    · exact .inr (.inr h1)
theorem Wl.last (h : Wl kids hd a b C ((x, y) :: R)) : Wl kids hd a b C (R ++ [(x, y)]) := h.congr fun p => by
  simp only [List.mem_cons, List.mem_append, List.not_mem_nil, or_false]
  exact Or.comm
theorem Wl.leaf1 (O : WlOk kids hd sz) (h : Wl kids hd a b C ((x, y) :: R)) (hxy : hd x y) (hx : kids x = []) : Wl kids hd a b C R := h.last.leaf O hxy hx
theorem Wl.expand1 (h : Wl kids hd a b C ((x, y) :: R)) (hxy : hd x y) : Wl kids hd a b (C ++ [(x, y)]) (R ++ (kids x).zip (kids y)) := h.last.expand hxy
theorem Wl.no1 (O : WlOk kids hd sz) (h : Wl kids hd a b C ((x, y) :: R)) (hn : ¬ hd x y) : a ≠ b := h.last.no O hn
theorem Wl.alias (h : Wl kids hd a b C ((x, y) :: R)) (hxy : hd x y) {x' y' : T} (hm : (x', y') ∈ C) (hk : kids x = kids x') (hk' : kids y = kids y') : Wl kids hd a b (C ++ [(x, y)]) R := by
  have key : ∀ u v : T, ((u, v) ∈ C ∨ (u, v) ∈ (x, y) :: R ∨ u = v) → (u, v) ∈ C ++ [(x, y)] ∨ (u, v) ∈ R ∨ u = v := by
    rintro u v (h1 | h1 | h1)
    · exact .inl (by simp [h1])
    · rcases List.mem_cons.1 h1 with h2 | h2
      · exact .inl (by simp [h2])
      · exact .inr (.inl h2)
    · exact .inr (.inr h1)
  refine ⟨fun p hp => ?_, key a b h.root, fun e p hp => h.all e p (by simp [hp])⟩
  rcases List.mem_append.1 hp with h2 | h2
  · exact ⟨(h.clo p h2).1, fun i u v hu hv => key u v ((h.clo p h2).2 i u v hu hv)⟩
  · simp only [List.mem_singleton] at h2
    subst h2
    refine ⟨hxy, fun i u v hu hv => key u v ((h.clo _ hm).2 i u v ?_ ?_)⟩
    · rw [← hk]; exact hu
    · rw [← hk']; exact hv
end
end Go.Proofs.Ytbaadphgbhaboaa
