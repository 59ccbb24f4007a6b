/- Plain: when a node is proper, the number of nodes, valid expressions. No condition. -/
import Derived.Test.YtjmiobmfphkdeaaDoorExsSz
import Derived.Test.YtjmiobmfphkdeaaDoorCanQ
import Derived.Test.YtjmiobmfphkdeaaDoorName
namespace Go.Proofs.YtjmiobmfphkdeaaDoor
open Go Go.RowKit

/-- A node with c Kids and nothing else. -/
def Ex.only (x : Ex) (c : Int) : Bool := (x.n == 0) && ((x.t.size == 0) && ((x.kids.length : Int) == c))
/-- The kind of the second of the Kids. -/
def Ex.k1 (x : Ex) : Int := ((x.kids[1]?).map Ex.k).getD 0
/-- The node has the fields of its kind and no others. -/
def Ex.proper (x : Ex) : Bool :=
  if x.k = 1 then (x.n == 0) && (canB x.t && ((x.kids.length : Int) == 0))
  else if x.k = 2 then (decide (0 ≤ x.n) && decide (x.n ≤ 1000000000000)) && ((x.t.size == 0) && ((x.kids.length : Int) == 0))
  else if x.k = 3 ∨ x.k = 16 ∨ x.k = 17 ∨ x.k = 18 then (x.n == 0) && (isNameB x.t && ((x.kids.length : Int) == 0))
  else if x.k = 4 then (x.n == 0) && (isNameB x.t && decide ((x.kids.length : Int) ≤ 6))
  else if x.k = 14 ∨ x.k = 15 then x.only 1
  else if x.k = 12 ∨ x.k = 13 then x.only 2 && (x.k1 == 3)
  else if 5 ≤ x.k ∧ x.k ≤ 11 then x.only 2
  else false
mutual
/-- The number of nodes. -/
def exCnt : Ex → Nat
  | .node _ _ _ ks => 1 + exCnts ks
def exCnts : List Ex → Nat
  | [] => 0
  | x :: xs => exCnt x + exCnts xs
end
mutual
/-- All nodes are proper. -/
def exAll : Ex → Prop
  | .node k n t ks => (Ex.node k n t ks).proper = true ∧ exAlls ks
def exAlls : List Ex → Prop
  | [] => True
  | x :: xs => exAll x ∧ exAlls xs
end
theorem exCnt_eq (x : Ex) : exCnt x = 1 + exCnts x.kids := by cases x; rw [exCnt]; rfl
theorem exAll_eq (x : Ex) : exAll x ↔ x.proper = true ∧ exAlls x.kids := by cases x; rw [exAll]; rfl
theorem exCnt_pos (x : Ex) : 0 < exCnt x := by rw [exCnt_eq]; omega
/-- The nodes of the first k. -/
def cntK (xs : List Ex) : Nat → Nat
  | 0 => 0
  | k + 1 => cntK xs k + ((xs[k]?.map exCnt).getD 0)
theorem cntK_next {xs : List Ex} {k : Nat} {x : Ex} (h : xs[k]? = some x) : cntK xs (k + 1) = cntK xs k + exCnt x := by
  rw [cntK, h]
  rfl
theorem cntK_cons (x : Ex) (xs : List Ex) : ∀ k, cntK (x :: xs) (k + 1) = exCnt x + cntK xs k
  | 0 => by simp [cntK]
  | k + 1 => by
    have ih := cntK_cons x xs k
    rw [cntK, ih, cntK]
    simp only [List.getElem?_cons_succ]
    omega
theorem exCnts_eq : ∀ (xs : List Ex), exCnts xs = cntK xs xs.length
  | [] => by rw [exCnts]; rfl
  | x :: xs => by rw [exCnts, exCnts_eq xs, List.length_cons, cntK_cons]
theorem cntK_mono {xs : List Ex} {j : Nat} : ∀ {k : Nat}, j ≤ k → cntK xs j ≤ cntK xs k
  | 0, h => by obtain rfl : j = 0 := by omega
               exact Nat.le_refl _
  | k + 1, h => by
    by_cases e : j = k + 1
    · rw [e]; exact Nat.le_refl _
    · have := cntK_mono (xs := xs) (show j ≤ k by omega)
      rw [cntK]
      omega
theorem exAlls_iff : ∀ (xs : List Ex), exAlls xs ↔ ∀ (j : Nat) (x : Ex), xs[j]? = some x → exAll x
  | [] => by rw [exAlls]; simp
  | y :: ys => by
    rw [exAlls, exAlls_iff ys]
    constructor
    · rintro ⟨h1, h2⟩ j x hx
      cases j with
      | zero => simp at hx; rw [← hx]; exact h1
      | succ j => exact h2 j x (by simpa using hx)
    · intro h
      exact ⟨h 0 y rfl, fun j x hx => h (j + 1) x (by simpa using hx)⟩
mutual
theorem cnt_le_sz : ∀ (x : Ex), exCnt x ≤ 1 + exSz x
  | .node k n t ks => by
    have := cnts_le_szs ks
    rw [exCnt, exSz]
    omega
theorem cnts_le_szs : ∀ (xs : List Ex), exCnts xs ≤ exSzs xs
  | [] => by rw [exCnts, exSzs]; exact Nat.le_refl _
  | x :: xs => by
    have h1 := cnt_le_sz x
    have h2 := cnts_le_szs xs
    rw [exCnts, exSzs]
    omega
end
/-- A valid expression. -/
def ValidE (x : Ex) : Prop := exCnt x ≤ 60 ∧ exAll x
end Go.Proofs.YtjmiobmfphkdeaaDoor
