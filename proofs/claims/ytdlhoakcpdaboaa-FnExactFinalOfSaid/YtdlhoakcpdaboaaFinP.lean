/- Plain: what FinalOf answers. No condition. -/
import Derived.Test.YtdlhoakcpdaboaaAsOwn
namespace Go.Proofs.Ytdlhoakcpdaboaa
open Go Go.RowKit

/-- The place of a name. -/
def idxAs (out : List As) (nm : ByteArray) : Option Nat := out.findIdx? (fun a => a.name_.toList == nm.toList)
def finS (out : List As) (x : As) : List As := match idxAs out x.name_ with
  | some k => out.set k x
  | none => out ++ [x]
def finK (xs : List As) (k : Nat) : List As := (xs.take k).foldl finS []
theorem finK_zero (xs : List As) : finK xs 0 = [] := rfl
theorem finK_next {xs : List As} {k : Nat} {x : As} (h : xs[k]? = some x) : finK xs (k + 1) = finS (finK xs k) x := by
  have hk : k < xs.length := (List.getElem?_eq_some_iff.1 h).1
  have e : xs[k] = x := (List.getElem?_eq_some_iff.1 h).2
  unfold finK
  rw [List.take_succ_eq_append_getElem hk, List.foldl_append, e]
  rfl
theorem finS_some {out : List As} {x y : As} {k : Nat} (h0 : ∀ (j : Nat) (a : As), j < k → out[j]? = some a → (a.name_.toList == x.name_.toList) = false) (h1 : out[k]? = some y) (h2 : (y.name_.toList == x.name_.toList) = true) : finS out x = out.set k x ∧ idxAs out x.name_ = some k := by
  have e : idxAs out x.name_ = some k := by
    unfold idxAs
    have hk : k < out.length := (List.getElem?_eq_some_iff.1 h1).1
    rw [List.findIdx?_eq_some_iff_getElem]
    refine ⟨hk, ?_, fun j hj => ?_⟩
    · rw [(List.getElem?_eq_some_iff.1 h1).2]; exact h2
    · rw [h0 j _ hj (List.getElem?_eq_getElem (by omega))]; simp
  unfold finS
  rw [e]
  exact ⟨rfl, rfl⟩
theorem finS_none {out : List As} {x : As} (h0 : ∀ (j : Nat) (a : As), out[j]? = some a → (a.name_.toList == x.name_.toList) = false) : finS out x = out ++ [x] ∧ idxAs out x.name_ = none := by
  have e : idxAs out x.name_ = none := by
    unfold idxAs
    rw [List.findIdx?_eq_none_iff]
    intro a ha
    obtain ⟨j, hj⟩ := List.mem_iff_getElem?.1 ha
    exact h0 j a hj
  unfold finS
  rw [e]
  exact ⟨rfl, rfl⟩
theorem finS_len (out : List As) (x : As) : (finS out x).length ≤ out.length + 1 := by
  unfold finS
  split
  · rw [List.length_set]; omega
  · simp
theorem finK_len (xs : List As) : ∀ k, (finK xs k).length ≤ k
  | 0 => by rw [finK_zero]; exact Nat.le_refl _
  | k + 1 => by
    cases h : xs[k]? with
    | none =>
      have hl : xs.length ≤ k := by simpa using h
      have e : finK xs (k + 1) = finK xs k := by unfold finK; rw [List.take_of_length_le (by omega), List.take_of_length_le hl]
      rw [e]
      have := finK_len xs k
      omega
    | some x =>
      rw [finK_next h]
      have := finS_len (finK xs k) x
      have := finK_len xs k
      omega
theorem finS_mem {out : List As} {x a : As} (h : a ∈ finS out x) : a ∈ out ∨ a = x := by
  unfold finS at h
  split at h
  · exact List.mem_or_eq_of_mem_set h
  · simpa using h
theorem finK_mem (xs : List As) : ∀ (k : Nat) (a : As), a ∈ finK xs k → a ∈ xs
  | 0, a, h => by rw [finK_zero] at h; simp at h
  | k + 1, a, h => by
    cases hx : xs[k]? with
    | none =>
      have hl : xs.length ≤ k := by simpa using hx
      have e : finK xs (k + 1) = finK xs k := by unfold finK; rw [List.take_of_length_le (by omega), List.take_of_length_le hl]
      rw [e] at h
      exact finK_mem xs k a h
    | some x =>
      rw [finK_next hx] at h
      rcases finS_mem h with h | h
      · exact finK_mem xs k a h
      · subst h; exact List.mem_of_getElem? hx
def finT (xs : List As) : List As := finK xs xs.length
/-- What FinalOf returns: a row of its own. -/
def RetAs (W : World) (ys : List As) (e : Ending) (w' : World) : Prop := ∃ A c, e = .returned (.slice A ys.length c) ∧ Hid (RowAs w' W.heap.size w'.heap.size A ys ∧ Below W.heap.size W w')
end Go.Proofs.Ytdlhoakcpdaboaa
