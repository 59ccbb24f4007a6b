/- Plain: physical lines combined, and their statements. No condition. -/
import Derived.Test.YtfobjedobojbnabDoorLns
import Derived.Test.YtfobjedobojbnabDoorSplitPlain
import Derived.Test.YtfobjedobojbnabDoorBlank
namespace Go.Proofs.YtfobjedobojbnabDoor
open Go

/-- A line that is passed over: blank, or a comment. -/
def skipB (t : ByteArray) : Bool := blankB t || (t.size != 0 && PlainAid.bt t 0 == 42)
/-- A line that continues the one before. -/
def contB (t : ByteArray) : Bool := t.size != 0 && PlainAid.bt t 0 == 43
/-- What is joined to the line before. -/
def restB (t : ByteArray) : ByteArray := ⟨#[32]⟩ ++ t.extract 1 t.size
/-- The last line with more text. -/
def extL (acc : List Lin) (t : ByteArray) : List Lin := acc.modify (acc.length - 1) fun x => ⟨x.n, x.t ++ restB t⟩
/-- The combined lines behind the lines ts, of which the first has the number k + 1; or the number of the line at fault. -/
def combT : List ByteArray → Nat → List Lin → List Lin × Nat
  | [], _, acc => (acc, 0)
  | t :: ts, k, acc => if skipB t = true then combT ts (k + 1) acc else if contB t = true then (if acc.length = 0 then ([], k + 1) else combT ts (k + 1) (extL acc t)) else combT ts (k + 1) (acc ++ [⟨((k + 1 : Nat) : Int), t⟩])
section
variable {ls : List ByteArray} {k : Nat} {acc : List Lin} {t : ByteArray}
theorem combT_end (h : ls.length ≤ k) : combT (ls.drop k) k acc = (acc, 0) := by rw [List.drop_eq_nil_of_le h]; rfl
theorem comb_drop (h : ls[k]? = some t) : ls.drop k = t :: ls.drop (k + 1) := by
  obtain ⟨hl, he⟩ := List.getElem?_eq_some_iff.1 h
  rw [List.drop_eq_getElem_cons hl, he]
theorem combT_skip (h : ls[k]? = some t) (hs : skipB t = true) : combT (ls.drop k) k acc = combT (ls.drop (k + 1)) (k + 1) acc := by rw [comb_drop h, combT, if_pos hs]
theorem combT_fault (h : ls[k]? = some t) (hs : skipB t = false) (hc : contB t = true) (h0 : acc.length = 0) : combT (ls.drop k) k acc = ([], k + 1) := by
  rw [comb_drop h, combT, if_neg (by rw [hs]; decide), if_pos hc, if_pos h0]
theorem combT_more (h : ls[k]? = some t) (hs : skipB t = false) (hc : contB t = true) (h0 : acc.length ≠ 0) : combT (ls.drop k) k acc = combT (ls.drop (k + 1)) (k + 1) (extL acc t) := by
  rw [comb_drop h, combT, if_neg (by rw [hs]; decide), if_pos hc, if_neg h0]
theorem combT_new (h : ls[k]? = some t) (hs : skipB t = false) (hc : contB t = false) : combT (ls.drop k) k acc = combT (ls.drop (k + 1)) (k + 1) (acc ++ [⟨((k + 1 : Nat) : Int), t⟩]) := by
  rw [comb_drop h, combT, if_neg (by rw [hs]; decide), if_neg (by rw [hc]; decide)]
end
/-- All bytes of the texts. -/
def bytesL : List Lin → Nat
  | [] => 0
  | x :: xs => x.t.size + bytesL xs
theorem bytesL_append : ∀ xs ys : List Lin, bytesL (xs ++ ys) = bytesL xs + bytesL ys
  | [], ys => by rw [List.nil_append, bytesL, Nat.zero_add]
  | x :: xs, ys => by show x.t.size + bytesL (xs ++ ys) = x.t.size + bytesL xs + _; rw [bytesL_append xs ys]; omega
theorem bytesL_at : ∀ {xs : List Lin} {j : Nat} {x : Lin}, xs[j]? = some x → x.t.size ≤ bytesL xs
  | [], j, x, h => by simp at h
  | y :: ys, 0, x, h => by simp at h; subst h; show _ ≤ _ + _; omega
  | y :: ys, j + 1, x, h => by have := bytesL_at (xs := ys) (j := j) (by simpa using h); show _ ≤ _ + _; omega
theorem restB_size (t : ByteArray) (h : t.size ≠ 0) : (restB t).size = t.size := by
  unfold restB
  rw [ByteArray.size_append, ByteArray.size_extract]
  have e : (⟨#[32]⟩ : ByteArray).size = 1 := rfl
  rw [e]
  omega
theorem bytesL_modify (f : Lin → Lin) (d : Nat) (hf : ∀ x, (f x).t.size = x.t.size + d) : ∀ (xs : List Lin) (j : Nat), j < xs.length → bytesL (xs.modify j f) = bytesL xs + d
  | [], j, h => by simp at h
  | x :: xs, 0, _ => by
    show bytesL (f x :: xs) = _
    show (f x).t.size + bytesL xs = x.t.size + bytesL xs + d
    rw [hf]
    omega
  | x :: xs, j + 1, h => by
    have := bytesL_modify f d hf xs j (by simpa using h)
    show x.t.size + bytesL (xs.modify j f) = x.t.size + bytesL xs + d
    omega
theorem extL_bytes {acc : List Lin} {t : ByteArray} (h0 : acc.length ≠ 0) (ht : t.size ≠ 0) : bytesL (extL acc t) = bytesL acc + t.size :=
  bytesL_modify _ t.size (fun x => by rw [ByteArray.size_append, restB_size t ht]) acc _ (by omega)
theorem extL_length (acc : List Lin) (t : ByteArray) : (extL acc t).length = acc.length := by unfold extL; simp

/-- The statements of one combined line, ahead of them what is there. -/
def stmL (x : Lin) (acc : List Lin) : List Lin := acc ++ ((stm x.t 0 0 0).filter fun p => !blankB p).map fun p => ⟨x.n, p⟩
/-- The statements of combined lines. -/
def logT : List Lin → List Lin → List Lin
  | [], acc => acc
  | x :: xs, acc => logT xs (stmL x acc)
end Go.Proofs.YtfobjedobojbnabDoor
