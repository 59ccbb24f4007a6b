/- A map from numbers to pointers that the call makes: how it reads; the index of the first k objects. No condition. -/
import Derived.Test.YtbdmanadmckjjaaDoorObUpTo
import Derived.Maps.OwnSet
import Derived.Maps.Views
namespace Go.Proofs.YtbdmanadmckjjaaDoor
open Go Go.RowKit Go.Sort Go.Maps

/-- How a pointer reads as an element. -/
def ptrElem : Value → Option (DataW Unit × List MemPlace)
  | .pointer none => some (.nil, [])
  | .pointer (some ⟨b, o, none⟩) => some (.agg [.lit (.int .i64 (b : Int)), .lit (.int .i64 (o : Int))], [])
  | _ => none
theorem ptrElem_mk (b o : Nat) : ptrElem (.pointer (some ⟨b, o, none⟩)) = some (.agg [.lit (.int .i64 (b : Int)), .lit (.int .i64 (o : Int))], []) := rfl
theorem ptrElem_inv {v : Value} {b o : Nat} {ps : List MemPlace} (h : ptrElem v = some (.agg [.lit (.int .i64 (b : Int)), .lit (.int .i64 (o : Int))], ps)) : v = .pointer (some ⟨b, o, none⟩) := by
  unfold ptrElem at h
  split at h
  · simp at h
  · simp only [Option.some.injEq, Prod.mk.injEq, DataW.agg.injEq, List.cons.injEq, DataW.lit.injEq, Lit.int.injEq, and_true, true_and] at h
    obtain ⟨⟨h1, h2⟩, _⟩ := h
    have e1 := Int.ofNat.inj h1
    have e2 := Int.ofNat.inj h2
    rw [e1, e2]
  · cases h
/-- Block m is a map: the numbers of the first k objects, each with the place of its object (b, off). -/
def IdxM (w : World) (m b off : Nat) (os : List Ob) (k : Nat) : Prop :=
  ∃ D, w.ownsMap Tryd.prog 2 ptrElem m k D ∧ IsMap D ∧ (∀ id : Int, (∀ (j : Nat) (o : Ob), j < k → os[j]? = some o → o.id ≠ id) → has D (.int .i64 id) = false) ∧
    (∀ (j : Nat) (o : Ob), j < k → os[j]? = some o → has D (.int .i64 o.id) = true ∧ D.atKey (.int .i64 o.id) .nil = .agg [.lit (.int .i64 (b : Int)), .lit (.int .i64 ((off + j * 10 : Nat) : Int))])
theorem IdxM.made (w : World) (b off : Nat) (os : List Ob) : IdxM (w.alloc (.map #[] 0)) w.heap.size b off os 0 :=
  ⟨_, World.ownsMap_made w _ _ _, ⟨_, rfl⟩, fun _ _ => rfl, fun j o hj => absurd hj (by omega)⟩
theorem key_lit (id : Int) : WideAt.IsKeyLit (.int .i64 id) := by first | trivial | simp [WideAt.IsKeyLit] | exact Or.inl ⟨_, _, rfl⟩
theorem IdxM.below {w w' : World} {m b off k B : Nat} {os : List Ob} (h : IdxM w m b off os k) (hb : Below B w w') (hm : m < B) : IdxM w' m b off os k := by
  obtain ⟨D, ⟨es, clock, hg, r⟩, h2⟩ := h
  exact ⟨D, ⟨es, clock, (hb.block m hm).trans hg, r⟩, h2⟩
theorem int_law : Keyed Tryd.prog 2 := int_keyed Tryd.underlying2
theorem zeroP (w : World) : (zeroValue 82).run Tryd.prog w = .ok (.pointer none) w := by kernel_rfl
/-- 'm[o.id] = &list[k]' for the k-th object, whose number is new. -/
theorem IdxM.store {w : World} {m b off k : Nat} {os : List Ob} {o : Ob} (h : IdxM w m b off os k) (ho : os[k]? = some o) (hd : ∀ (j : Nat) (a : Ob), j < k → os[j]? = some a → a.id ≠ o.id) (hk : k < maxLen) (wf : (Lit.int .i64 o.id).wf = true) :
    ∃ w', (Instr.mapUpdate 70 (.map (some m)) (.int .i64 o.id) (.pointer (some ⟨b, off + k * 10, none⟩))).run Tryd.prog w = .ok () w' ∧ IdxM w' m b off os (k + 1) ∧ w.grownBy w' (some m) := by
  obtain ⟨D, hown, hD, hno, hyes⟩ := h
  obtain ⟨w', hrun, hown', hg⟩ := hown.update (t := 70) (e := 82) int_law Tryd.underlying70 hk (keyOf_int_mk Tryd.underlying2 wf) (ptrElem_mk b (off + k * 10))
  refine ⟨w', hrun, ⟨_, hown', hown'.isMap, fun id hid => ?_, fun j a hj ha => ?_⟩, hg⟩
  · have hne : id ≠ o.id := fun e => hid k o (by omega) ho e.symm
    rw [has_put_other (by intro e; exact hne (by simpa using e))]
    exact hno id fun j a hj ha => hid j a (by omega) ha
  · by_cases e : j = k
    · subst e
      rw [ho, Option.some.injEq] at ha
      subst ha
      exact ⟨has_put_same hD (key_lit _) _, atKey_put_same hD (key_lit _) _ _⟩
    · have hne : a.id ≠ o.id := hd j a (by omega) ha
      have := hyes j a (by omega) ha
      rw [has_put_other (by intro e; exact hne (by simpa using e)), atKey_put_other (by intro e; exact hne (by simpa using e))]
      exact this
/-- 'v, ok := m[id]'. -/
theorem IdxM.look {w : World} {m b off k : Nat} {os : List Ob} (h : IdxM w m b off os k) (id : Int) (wf : (Lit.int .i64 id).wf = true) :
    (∃ (j : Nat) (o : Ob), j < k ∧ os[j]? = some o ∧ o.id = id ∧ (Instr.lookup 70 (.map (some m)) (.int .i64 id) true).run Tryd.prog w = .ok (.tuple #[.pointer (some ⟨b, off + j * 10, none⟩), .bool true]) w) ∨
    ((∀ (j : Nat) (o : Ob), j < k → os[j]? = some o → o.id ≠ id) ∧ ∃ v, (Instr.lookup 70 (.map (some m)) (.int .i64 id) true).run Tryd.prog w = .ok (.tuple #[v, .bool false]) w) := by
  obtain ⟨D, hown, hD, hno, hyes⟩ := h
  obtain ⟨v, ps, hrun, hv⟩ := hown.look_ok (t := 70) (e := 82) int_law Tryd.underlying70 (zeroP w) (zd := .nil) (zp := []) rfl (keyOf_int_mk Tryd.underlying2 wf)
  by_cases hex : ∃ (j : Nat) (o : Ob), j < k ∧ os[j]? = some o ∧ o.id = id
  · obtain ⟨j, o, hj, ho, rfl⟩ := hex
    obtain ⟨h1, h2⟩ := hyes j o hj ho
    rw [h1] at hrun
    rw [h2] at hv
    rw [ptrElem_inv hv] at hrun
    exact .inl ⟨j, o, hj, ho, rfl, hrun⟩
  · have hn : ∀ (j : Nat) (o : Ob), j < k → os[j]? = some o → o.id ≠ id := fun j o hj ho e => hex ⟨j, o, hj, ho, e⟩
    rw [hno id hn] at hrun
    exact .inr ⟨hn, v, hrun⟩
end Go.Proofs.YtbdmanadmckjjaaDoor
