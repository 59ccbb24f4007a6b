/- Plain: what a valid object and a valid heap are. No condition. -/
import Derived.Test.YtbdmanadmckjjaaDoorObs
import Derived.Test.YtbdmanadmckjjaaDoorTT
import Derived.Test.YtbdmanadmckjjaaDoorVal
namespace Go.Proofs.YtbdmanadmckjjaaDoor
open Go Go.RowKit

def Vl.valid (x : Vl) : Bool := validV x.k x.n x.t x.r
/-- A reference's kind. -/
def Vl.refK (x : Vl) : Prop := 4 ≤ x.k ∧ x.k ≤ 6
def Vl.zero : Vl := ⟨0, 0, ⟨#[]⟩, 0⟩
def AllValid (xs : List Vl) : Prop := ∀ (j : Nat) (x : Vl), xs[j]? = some x → x.valid = true
def Distinct (xs : List Vl) : Prop := ∀ (i j : Nat) (x y : Vl), j < i → xs[i]? = some x → xs[j]? = some y → x ≠ y
def Names (xs : List Vl) : Prop := ∀ (j : Nat) (x : Vl), xs[j]? = some x → x.k = 1 ∧ isNameB x.t = true
/-- An array's fields. -/
def ArrayO (o : Ob) : Prop := o.name.size = 0 ∧ (-1000 ≤ o.low ∧ o.low ≤ 1000) ∧ o.d = Vl.zero ∧ o.keys.length = 0 ∧ o.vals.length ≤ 30 ∧ AllValid o.vals
/-- A table's. -/
def TableO (o : Ob) : Prop := o.name.size = 0 ∧ o.low = 0 ∧ o.d.valid = true ∧ o.keys.length ≤ 30 ∧ o.keys.length = o.vals.length ∧ AllValid o.keys ∧ Distinct o.keys ∧ AllValid o.vals
/-- A record's. -/
def RecordO (o : Ob) : Prop := isNameB o.name = true ∧ o.low = 0 ∧ o.d = Vl.zero ∧ (1 ≤ o.keys.length ∧ o.keys.length ≤ 6) ∧ Names o.keys ∧ o.keys.length = o.vals.length ∧ AllValid o.keys ∧ Distinct o.keys ∧ AllValid o.vals
/-- What ValidObject asks. -/
def ValidO (o : Ob) : Prop := (1 ≤ o.id ∧ o.id ≤ 1000000) ∧ ((o.kind = 1 ∧ ArrayO o) ∨ (o.kind = 2 ∧ TableO o) ∨ (o.kind = 3 ∧ RecordO o))

/-- The values of an object in the order of tracing. -/
def pairsOf : List Vl → List Vl → List Vl
  | k :: ks, v :: vs => k :: v :: pairsOf ks vs
  | _, _ => []
def contents (o : Ob) : List Vl := if o.kind = 2 then pairsOf o.keys o.vals ++ [o.d] else o.vals
/-- A value fits the objects os. -/
def Fits (os : List Ob) (x : Vl) : Prop := x.valid = true ∧ (x.refK → ∃ (j : Nat) (o : Ob), os[j]? = some o ∧ o.id = x.r ∧ o.kind = x.k - 3)
def FitAll (os : List Ob) (xs : List Vl) : Prop := ∀ (j : Nat) (x : Vl), xs[j]? = some x → Fits os x
/-- An object's values fit. -/
def RefsFit (os : List Ob) (o : Ob) : Prop := FitAll os o.keys ∧ FitAll os o.vals ∧ (o.kind = 2 → Fits os o.d)
def Rising (os : List Ob) : Prop := ∀ (j : Nat) (a b : Ob), os[j]? = some a → os[j + 1]? = some b → a.id < b.id
/-- What ValidHeap asks. -/
def ValidH (nx : Int) (os : List Ob) : Prop :=
  (0 ≤ nx ∧ nx ≤ 1000000) ∧ os.length ≤ 40 ∧ (∀ (j : Nat) (o : Ob), os[j]? = some o → ValidO o ∧ o.id ≤ nx) ∧ Rising os ∧ (∀ (j : Nat) (o : Ob), os[j]? = some o → RefsFit os o)

theorem zero_iff {x : Vl} : x = Vl.zero ↔ x.k = 0 ∧ x.n = 0 ∧ x.t.size = 0 ∧ x.r = 0 := by
  constructor
  · rintro rfl
    exact ⟨rfl, rfl, rfl, rfl⟩
  · obtain ⟨k, n, t, r⟩ := x
    rintro ⟨h0, h1, h2, h3⟩
    dsimp only at h0 h1 h2 h3
    subst h0 h1 h3
    have e : t = ⟨#[]⟩ := by
      obtain ⟨d⟩ := t
      exact congrArg ByteArray.mk (Array.eq_empty_of_size_eq_zero h2)
    rw [e]
    rfl

theorem rising_lt {os : List Ob} (h : Rising os) : ∀ {j i : Nat} {a b : Ob}, i < j → os[i]? = some a → os[j]? = some b → a.id < b.id := by
  intro j
  induction j with
  | zero => intro i a b hi; omega
  | succ j ih =>
    intro i a b hi ha hb
    have hl : j + 1 < os.length := (List.getElem?_eq_some_iff.1 hb).1
    have hj : os[j]? = some os[j] := List.getElem?_eq_getElem (by omega)
    have h1 := h j _ b hj hb
    by_cases e : i = j
    · subst e
      rw [hj, Option.some.injEq] at ha
      subst ha
      exact h1
    · have := ih (by omega) ha hj
      omega
/-- The numbers of rising objects are different. -/
theorem rising_inj {os : List Ob} (h : Rising os) {j i : Nat} {a b : Ob} (ha : os[i]? = some a) (hb : os[j]? = some b) (e : a.id = b.id) : i = j := by
  rcases Nat.lt_trichotomy i j with hl | hl | hl
  · have := rising_lt h hl ha hb; omega
  · exact hl
  · have := rising_lt h hl hb ha; omega

theorem mem_pairs : ∀ {ks vs : List Vl} {x : Vl}, ks.length = vs.length → (x ∈ pairsOf ks vs ↔ x ∈ ks ∨ x ∈ vs)
  | [], [], x, _ => by simp [pairsOf]
  | k :: ks, v :: vs, x, h => by
    have ih := mem_pairs (ks := ks) (vs := vs) (x := x) (by simpa using h)
    simp only [pairsOf, List.mem_cons, ih]
    constructor
    · rintro (h | h | h | h) <;> simp [h]
    · rintro ((h | h) | h | h) <;> simp [h]
theorem fitAll_mem {os : List Ob} {xs : List Vl} : FitAll os xs ↔ ∀ x ∈ xs, Fits os x := by
  constructor
  · intro h x hx
    obtain ⟨j, hj⟩ := List.getElem?_of_mem hx
    exact h j x hj
  · intro h j x hx
    exact h x (List.mem_of_getElem? hx)
theorem allValid_mem {xs : List Vl} : AllValid xs ↔ ∀ x ∈ xs, x.valid = true := by
  constructor
  · intro h x hx
    obtain ⟨j, hj⟩ := List.getElem?_of_mem hx
    exact h j x hj
  · intro h j x hx
    exact h x (List.mem_of_getElem? hx)
/-- A string fits whatever the objects are. -/
theorem fits_string {os : List Ob} {x : Vl} (hv : x.valid = true) (hk : x.k = 1) : Fits os x := ⟨hv, fun h => by have := h.1; omega⟩
/-- The values of a valid object fit just if those in the order of tracing do. -/
theorem refsFit_iff {os : List Ob} {o : Ob} (h : ValidO o) : RefsFit os o ↔ FitAll os (contents o) := by
  obtain ⟨_, h1 | h2 | h3⟩ := h
  · obtain ⟨hk, _, _, _, hks, _⟩ := h1
    have e : o.keys = [] := List.length_eq_zero_iff.1 hks
    unfold RefsFit contents
    rw [if_neg (by omega), e]
    constructor
    · exact fun h => h.2.1
    · exact fun h => ⟨fun j x hx => by simp at hx, h, fun h2 => by omega⟩
  · obtain ⟨hk, _, _, _, _, hl, _⟩ := h2
    unfold RefsFit contents
    rw [if_pos hk]
    simp only [fitAll_mem, List.mem_append, mem_pairs hl, List.mem_singleton]
    constructor
    · rintro ⟨a, b, c⟩ x ((hx | hx) | rfl)
      · exact a x hx
      · exact b x hx
      · exact c hk
    · exact fun h => ⟨fun x hx => h x (.inl (.inl hx)), fun x hx => h x (.inl (.inr hx)), fun _ => h _ (.inr rfl)⟩
  · obtain ⟨hk, _, _, _, _, hn, _, hv, _⟩ := h3
    unfold RefsFit contents
    rw [if_neg (by omega)]
    constructor
    · exact fun h => h.2.1
    · exact fun h => ⟨fun j x hx => fits_string (hv j x hx) (hn j x hx).1, h, fun h2 => by omega⟩
end Go.Proofs.YtbdmanadmckjjaaDoor
