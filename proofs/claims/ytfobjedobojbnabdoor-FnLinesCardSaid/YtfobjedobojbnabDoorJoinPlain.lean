/- Plain: the text of lines, each with its end. No condition. -/
import Derived.Test.YtfobjedobojbnabDoorLns
namespace Go.Proofs.YtfobjedobojbnabDoor
open Go

/-- The texts' bytes of the first k lines. -/
def sumL (xs : List Lin) : Nat → Nat
  | 0 => 0
  | k + 1 => sumL xs k + ((xs[k]?.map fun (x : Lin) => x.t.size).getD 0)
theorem sumL_next {xs : List Lin} {k : Nat} {x : Lin} (h : xs[k]? = some x) : sumL xs (k + 1) = sumL xs k + x.t.size := by
  rw [sumL, h]
  rfl
theorem sumL_mono {xs : List Lin} {j : Nat} : ∀ {k : Nat}, j ≤ k → sumL xs j ≤ sumL xs k
  | 0, h => by obtain rfl : j = 0 := by omega
               exact Nat.le_refl _
  | k + 1, h => by
    by_cases e : j = k + 1
    · rw [e]; exact Nat.le_refl _
    · have := sumL_mono (xs := xs) (show j ≤ k by omega)
      rw [sumL]
      omega

/-- The text of the first k lines, each with its end. -/
def joinT (xs : List Lin) : Nat → ByteArray
  | 0 => ⟨#[]⟩
  | k + 1 => joinT xs k ++ (((xs[k]?.map fun (x : Lin) => x.t).getD ⟨#[]⟩) ++ ⟨#[10]⟩)
theorem joinT_next {xs : List Lin} {k : Nat} {x : Lin} (h : xs[k]? = some x) : joinT xs (k + 1) = joinT xs k ++ (x.t ++ ⟨#[10]⟩) := by
  rw [joinT, h]
  rfl
theorem joinT_size (xs : List Lin) : ∀ k, (joinT xs k).size = k + sumL xs k
  | 0 => rfl
  | k + 1 => by
    have e : (⟨#[10]⟩ : ByteArray).size = 1 := rfl
    rw [joinT, sumL, ByteArray.size_append, ByteArray.size_append, joinT_size xs k, e]
    cases xs[k]? with
    | none => show _ + (0 + 1) = _ + (_ + 0); omega
    | some x => show _ + (x.t.size + 1) = _ + (_ + x.t.size); omega
end Go.Proofs.YtfobjedobojbnabDoor
