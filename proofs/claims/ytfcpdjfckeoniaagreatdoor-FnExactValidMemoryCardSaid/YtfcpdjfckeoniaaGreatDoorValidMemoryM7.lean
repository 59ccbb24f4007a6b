/- A map from numbers to pointers that the call makes: how it reads; the index of the first k objects. No condition. Contract: indexObjects of the program. Condition: the objects rise, their numbers are numbers of Go's, and they are few. Contract: (objectIndex).fits of the program. Condition: the index is the objects', they rise, the table holds what the program's text lays. Contract: (objectIndex).fitAll of the program. Condition: as for fits. Rows of values of one's own: appended to, handed back. No condition. Contract: valuesOf of the program at arrays and records. No condition. Contract: contents of a table, of the program. Condition: at most thirty keys, as many values. Contract: valuesOf of the program at every valid object. No condition. Contracts: indexHeap, ValidHeap of the program. Condition: the table holds what the program's text lays; the heap's slice has an address. Contracts: FitsHeap, ValidRoots of both, l08Valid of the model. Condition: the table holds what the program's text lays (the program's). Contract: the program's ValidRoots. Condition: the table holds what its text lays. When a rising list is valid. Plain. Contracts: l21Lines of the model, areLines of the program. No condition. Contracts: l21File of the model, isFile of the program. Condition (the program's): the table holds what its text lays. Contracts: ValidConsole of both. Condition (the program's): the table holds what its text lays. -/
import Derived.Test.YtfcpdjfckeoniaaGreatDoorValidMemoryM6
import Derived.Maps.OwnSet
import Derived.Maps.Views
import Derived.StillTailTactics
import Derived.Maps.RangeWalk
import Derived.Test.YtfcpdjfckeoniaaGreatDoorValidMemoryM1
import Derived.Laws.OwnMore
import Derived.Maps.AppendAt
import Derived.Deep.AppendLies
import Derived.Test.YtfcpdjfckeoniaaGreatDoorValidMemoryM4
import Derived.Test.YtfcpdjfckeoniaaGreatDoorValidMemoryM2
import Derived.Lib.QuietBelow
import Derived.BigQuiet
import Derived.Deep.QuietTactic
import Derived.Test.YtfcpdjfckeoniaaGreatDoorValidMemoryM3
import Derived.Deep.RegionHeld3
namespace Go.Proofs.YtfcpdjfckeoniaaGreatDoor
open Go Go.RowKit Go.Sort Go.Maps

/-- How a pointer reads as an element. -/
def ptrElem : Value → Option (DataW Unit × List MemPlace)
  | .pointer none => some (.nil, [])
  | .pointer (some ⟨b, o, none⟩) => some (.agg [.lit (.int .i64 (b : Int)), .lit (.int .i64 (o : Int))], [])
  | _ => none
theorem ptrElem_mk (b o : Nat) : ptrElem (.pointer (some ⟨b, o, none⟩)) = some (.agg [.lit (.int .i64 (b : Int)), .lit (.int .i64 (o : Int))], []) := rfl
theorem ptrElem_inv {v : Value} {b o : Nat} {ps : List MemPlace} (h : ptrElem v = some (.agg [.lit (.int .i64 (b : Int)), .lit (.int .i64 (o : Int))], ps)) : v = .pointer (some ⟨b, o, none⟩) := by
  unfold ptrElem at h
  split at h
  · simp at h
  · simp only [Option.some.injEq, Prod.mk.injEq, DataW.agg.injEq, List.cons.injEq, DataW.lit.injEq, Lit.int.injEq, and_true, true_and] at h
    obtain ⟨⟨h1, h2⟩, _⟩ := h
    have e1 := Int.ofNat.inj h1
    have e2 := Int.ofNat.inj h2
    rw [e1, e2]
  · cases h
/-- Block m is a map: the numbers of the first k objects, each with the place of its object (b, off). -/
def IdxM (w : World) (m b off : Nat) (os : List Ob) (k : Nat) : Prop :=
  ∃ D, w.ownsMap Tryz.prog 2 ptrElem m k D ∧ IsMap D ∧ (∀ id : Int, (∀ (j : Nat) (o : Ob), j < k → os[j]? = some o → o.id ≠ id) → has D (.int .i64 id) = false) ∧
    (∀ (j : Nat) (o : Ob), j < k → os[j]? = some o → has D (.int .i64 o.id) = true ∧ D.atKey (.int .i64 o.id) .nil = .agg [.lit (.int .i64 (b : Int)), .lit (.int .i64 ((off + j * 10 : Nat) : Int))])
theorem IdxM.made (w : World) (b off : Nat) (os : List Ob) : IdxM (w.alloc (.map #[] 0)) w.heap.size b off os 0 :=
  ⟨_, World.ownsMap_made w _ _ _, ⟨_, rfl⟩, fun _ _ => rfl, fun j o hj => absurd hj (by omega)⟩
theorem key_lit (id : Int) : WideAt.IsKeyLit (.int .i64 id) := by first | trivial | simp [WideAt.IsKeyLit] | exact Or.inl ⟨_, _, rfl⟩
theorem IdxM.below {w w' : World} {m b off k B : Nat} {os : List Ob} (h : IdxM w m b off os k) (hb : Below B w w') (hm : m < B) : IdxM w' m b off os k := by
  obtain ⟨D, ⟨es, clock, hg, r⟩, h2⟩ := h
  exact ⟨D, ⟨es, clock, (hb.block m hm).trans hg, r⟩, h2⟩
theorem int_law : Keyed Tryz.prog 2 := int_keyed Tryz.underlying2
theorem zeroP (w : World) : (zeroValue 173).run Tryz.prog w = .ok (.pointer none) w := by kernel_rfl
/-- 'm[o.id] = &list[k]' for the k-th object, whose number is new. -/
theorem IdxM.store {w : World} {m b off k : Nat} {os : List Ob} {o : Ob} (h : IdxM w m b off os k) (ho : os[k]? = some o) (hd : ∀ (j : Nat) (a : Ob), j < k → os[j]? = some a → a.id ≠ o.id) (hk : k < maxLen) (wf : (Lit.int .i64 o.id).wf = true) :
    ∃ w', (Instr.mapUpdate 135 (.map (some m)) (.int .i64 o.id) (.pointer (some ⟨b, off + k * 10, none⟩))).run Tryz.prog w = .ok () w' ∧ IdxM w' m b off os (k + 1) ∧ w.grownBy w' (some m) := by
  obtain ⟨D, hown, hD, hno, hyes⟩ := h
  obtain ⟨w', hrun, hown', hg⟩ := hown.update (t := 135) (e := 173) int_law Tryz.underlying135 hk (keyOf_int_mk Tryz.underlying2 wf) (ptrElem_mk b (off + k * 10))
  refine ⟨w', hrun, ⟨_, hown', hown'.isMap, fun id hid => ?_, fun j a hj ha => ?_⟩, hg⟩
  · have hne : id ≠ o.id := fun e => hid k o (by omega) ho e.symm
    rw [has_put_other (by intro e; exact hne (by simpa using e))]
    exact hno id fun j a hj ha => hid j a (by omega) ha
  · by_cases e : j = k
    · subst e
      rw [ho, Option.some.injEq] at ha
      subst ha
      exact ⟨has_put_same hD (key_lit _) _, atKey_put_same hD (key_lit _) _ _⟩
    · have hne : a.id ≠ o.id := hd j a (by omega) ha
      have := hyes j a (by omega) ha
      rw [has_put_other (by intro e; exact hne (by simpa using e)), atKey_put_other (by intro e; exact hne (by simpa using e))]
      exact this
/-- 'v, ok := m[id]'. -/
theorem IdxM.look {w : World} {m b off k : Nat} {os : List Ob} (h : IdxM w m b off os k) (id : Int) (wf : (Lit.int .i64 id).wf = true) :
    (∃ (j : Nat) (o : Ob), j < k ∧ os[j]? = some o ∧ o.id = id ∧ (Instr.lookup 135 (.map (some m)) (.int .i64 id) true).run Tryz.prog w = .ok (.tuple #[.pointer (some ⟨b, off + j * 10, none⟩), .bool true]) w) ∨
    ((∀ (j : Nat) (o : Ob), j < k → os[j]? = some o → o.id ≠ id) ∧ ∃ v, (Instr.lookup 135 (.map (some m)) (.int .i64 id) true).run Tryz.prog w = .ok (.tuple #[v, .bool false]) w) := by
  obtain ⟨D, hown, hD, hno, hyes⟩ := h
  obtain ⟨v, ps, hrun, hv⟩ := hown.look_ok (t := 135) (e := 173) int_law Tryz.underlying135 (zeroP w) (zd := .nil) (zp := []) rfl (keyOf_int_mk Tryz.underlying2 wf)
  by_cases hex : ∃ (j : Nat) (o : Ob), j < k ∧ os[j]? = some o ∧ o.id = id
  · obtain ⟨j, o, hj, ho, rfl⟩ := hex
    obtain ⟨h1, h2⟩ := hyes j o hj ho
    rw [h1] at hrun
    rw [h2] at hv
    rw [ptrElem_inv hv] at hrun
    exact .inl ⟨j, o, hj, ho, rfl, hrun⟩
  · have hn : ∀ (j : Nat) (o : Ob), j < k → os[j]? = some o → o.id ≠ id := fun j o hj ho e => hex ⟨j, o, hj, ho, e⟩
    rw [hno id hn] at hrun
    exact .inr ⟨hn, v, hrun⟩

/-- 'm[list[k].Id] = &list[k]' AT THE OPERATION. -/
theorem wpList_idx_store {w : World} {ops : Array Oper} {rest : List Oper} {op : Oper} {a : Act} {Q : Exit → Act → World → Prop} (hg : op.guard = none) (mm x v : Operand) (hop : op.op = Op.mapUpdate 135 mm x v)
    (m b off k : Nat) (os : List Ob) (o : Ob) (h : IdxM w m b off os k) (ho : os[k]? = some o) (hd : ∀ (j : Nat) (a : Ob), j < k → os[j]? = some a → a.id ≠ o.id) (hk : k < maxLen) (wf : (Lit.int .i64 o.id).wf = true)
    (hm : a.eval mm = .map (some m)) (hx : a.eval x = .int .i64 o.id) (hv : a.eval v = .pointer (some ⟨b, off + k * 10, none⟩))
    (hK : ∀ w', IdxM w' m b off os (k + 1) → w.grownBy w' (some m) → wpList Tryz.prog ops Q rest (a.put op.dst undef) w') : wpList Tryz.prog ops Q (op :: rest) a w := by
  refine wpList_plain hg fun K' hK' => ?_
  obtain ⟨w', hrun, r1, r2⟩ := h.store ho hd hk wf
  unfold Oper.wp
  simp [execOp, hop, hm, hx, hv, hrun, Result.andThen]
  exact hK' _ _ (hK w' r1 r2)

set_option maxHeartbeats 2000000 in
set_option maxRecDepth 100000 in
theorem indexObjects_any (nx : Int) (b off n c : Nat) (os : List Ob) (W : World) (hr : OI W W.heap.size (some ⟨b, off, none⟩) n os) (hri : Rising os) (hwf : ∀ (j : Nat) (o : Ob), os[j]? = some o → (Lit.int .i64 o.id).wf = true) (hn : n ≤ 40) :
    Calls Tryz.prog 123 #[.agg #[.int .i64 nx, .slice (some ⟨b, off, none⟩) n c]] W fun e w' => ∃ m, e = .returned (.map (some m)) ∧ Hid (IdxM w' m b off os n ∧ m < w'.heap.size) ∧ Below W.heap.size W w' := by
  have HR := Lib.hid hr
  have HRI := Lib.hid hri
  have HWF := Lib.hid hwf
  have HN := Lib.hid hn
  have hmm := @run_makeMap Tryz.prog
  clear hr hri hwf
  go_enter Tryz.func123, Tryz.ntmps123
  go_wp2_with fail
  obtain ⟨w0, hw0⟩ : ∃ w0, (W.alloc (.cells #[.int .i64 nx, .slice (some ⟨b, off, none⟩) n c] 55)).alloc (.map #[] 0) = w0 := ⟨_, rfl⟩
  have hs0 : w0.heap.size = W.heap.size + 2 := by rw [← hw0]; simp
  have HB0 : Hid (Below W.heap.size W w0) := by show Below _ _ _; rw [← hw0]; exact (below_alloc _ _).alloc (by simp) _
  have HI0 : Hid (IdxM w0 (W.heap.size + 1) b off os 0) := by
    have h := IdxM.made (W.alloc (.cells #[.int .i64 nx, .slice (some ⟨b, off, none⟩) n c] 55)) b off os
    rw [hw0] at h
    have e : (W.alloc (.cells #[.int .i64 nx, .slice (some ⟨b, off, none⟩) n c] 55)).heap.size = W.heap.size + 1 := by simp
    rw [e] at h
    exact h
  have HR0 : Hid (RW 55 w0 W.heap.size #[.int .i64 nx, .slice (some ⟨b, off, none⟩) n c]) := by show RW _ _ _ _; rw [← hw0]; exact (RW.new W _ _).alloc _
  rw [hw0]
  clear hw0 hmm
  go_loopw [9] (fun i wr => ∃ k : Nat, k ≤ n ∧ i = .int .i64 k ∧ Hid (Below W.heap.size W wr) ∧ Hid (IdxM wr (W.heap.size + 1) b off os k ∧ W.heap.size + 2 ≤ wr.heap.size ∧ RW 55 wr W.heap.size #[.int .i64 nx, .slice (some ⟨b, off, none⟩) n c])) (fun i _ => n - (intOf i).toNat)
  case atStart => exact ⟨0, Nat.zero_le _, rfl, HB0, HI0.out, by omega, HR0.out⟩
  case round =>
    obtain ⟨k, hk, rfl, HW, HV⟩ := hrel
    by_cases hlt : k < n
    · obtain ⟨b', off', o, l, hA, hg, hx, ⟨q0, _⟩, _⟩ := (HR.out.go HW.out).at_ hlt
      simp only [Option.some.injEq, Addr.mk.injEq, and_true] at hA
      obtain ⟨rfl, rfl⟩ := hA
      have HX := Lib.hid hx
      have b0 : (0 : Int) ≤ (k : Int) := by omega
      have b1 : (k : Int) < (n : Int) := by omega
      have p1 : wr.cell? ⟨W.heap.size, 1, none⟩ = some (.slice (some ⟨b, off, none⟩) n c) := HV.out.2.2.cell 1
      have HKM : Hid (k < maxLen) := by show _ < _; unfold maxLen; omega
      have HDF : Hid (∀ (j : Nat) (a : Ob), j < k → os[j]? = some a → a.id ≠ o.id) := fun j a hj ha e => by
        have := rising_inj HRI.out ha HX.out e
        omega
      clear hx hg
      go_wp2_with fail
      go_still_tail 11, (by kernel_rfl)
      change wpList _ _ _ _ _ wr.drew
      have HI := Lib.hid (HV.out.1.below (Below.refl wr.heap.size wr).drew (by have := HV.out.2.1; omega))
      have HRD : Hid (RW 55 wr.drew W.heap.size #[.int .i64 nx, .slice (some ⟨b, off, none⟩) n c]) := HV.out.2.2
      have HWD := Lib.hid (HW.out.trans ((Below.refl W.heap.size wr).drew))
      refine wpList_idx_store rfl (.tmp 12) (.tmp 18) (.tmp 22) rfl (W.heap.size + 1) b off k os o HI.out HX.out HDF.out HKM.out (HWF.out k o HX.out) rfl rfl rfl ?_
      intro w2 hi2 hg2
      have HI2 : Hid (IdxM w2 (W.heap.size + 1) b off os (k + 1) ∧ W.heap.size + 2 ≤ w2.heap.size ∧ RW 55 w2 W.heap.size #[.int .i64 nx, .slice (some ⟨b, off, none⟩) n c]) := ⟨hi2, Nat.le_trans HV.out.2.1 hg2.size, (hg2.block W.heap.size HRD.out.lt (by simp)).trans HRD.out⟩
      have HW2 : Hid (Below W.heap.size W w2) := HWD.out.grown hg2 HW.out.size (fun j hj => by cases hj; omega)
      clear hi2 hg2 HI HRD HWD
      go_frame
      go_wp2_with fail
      go_roundw
      case rel => exact ⟨k + 1, by omega, by go_num, HW2, HI2⟩
      case measure => simp [intOf]; omega
    · go_wp2_with fail
      go_ret
      exact ⟨_, rfl, Lib.hid ⟨by have h := HV.out.1; have e : k = n := (by omega); rw [e] at h; exact h, Nat.lt_of_lt_of_le (by omega) HV.out.2.1⟩, HW.out⟩

theorem valid_ref {k n r : Int} {t : ByteArray} (h : isRefV k n t r = true) : (4 ≤ k ∧ k ≤ 6) ∧ validV k n t r = true ∧ (Lit.int .i64 r).wf = true := by
  unfold isRefV at h
  simp only [Bool.and_eq_true, decide_eq_true_eq] at h
  refine ⟨h.2, h.1, ?_⟩
  have hv := h.1
  unfold validV at hv
  rw [if_neg (by omega), if_neg (by omega), if_neg (by omega), if_pos (by omega)] at hv
  simp only [Bool.and_eq_true, decide_eq_true_eq] at hv
  unfold Lit.wf
  simp only [Bool.and_eq_true, decide_eq_true_eq]
  have h1 := hv.2
  exact ⟨by show (-9223372036854775808 : Int) ≤ r; omega, by show r ≤ (9223372036854775807 : Int); omega⟩
theorem refKind_iff {o : Ob} {k : Int} (hk : 4 ≤ k ∧ k ≤ 6) : refKind o = k ↔ o.kind = k - 3 := by
  unfold refKind
  split
  · omega
  · split
    · omega
    · split <;> omega

set_option maxHeartbeats 4000000 in
set_option maxRecDepth 100000 in
theorem fits_any (m b off n : Nat) (os : List Ob) (x : Vl) (W : World) (hi : IdxM W m b off os n) (hm : m < W.heap.size) (hr : OI W W.heap.size (some ⟨b, off, none⟩) n os) (hri : Rising os) (hx : x.t.size ≤ maxLen) (hT : Classes W) :
    Calls Tryz.prog 125 #[.map (some m), x.ag] W fun e w' => e = .returned (.bool (tt (Fits os x))) ∧ Below W.heap.size W w' := by
  obtain ⟨P, hP⟩ : ∃ P, tt (Fits os x) = P := ⟨_, rfl⟩
  have HP := Lib.hid hP
  rw [hP]
  clear hP
  obtain ⟨k, nn, t, r⟩ := x
  have HI := Lib.hid hi
  have HM := Lib.hid hm
  have HR := Lib.hid hr
  have HRI := Lib.hid hri
  have HX := Lib.hid hx
  have HT := Lib.hid hT
  have HC := Lib.hid (one_new W 36 #[.int .i64 k, .int .i64 nn, .string t, .int .i64 r])
  clear hi hm hr hri hx hT
  show Calls Tryz.prog 125 #[.map (some m), .agg #[.int .i64 k, .int .i64 nn, .string t, .int .i64 r]] W _
  obtain ⟨f, hf⟩ : ∃ f, isRefV k nn t r = f := ⟨_, rfl⟩
  have HF := Lib.hid hf
  clear hf
  cases f
  · have HPV : Hid (validV k nn t r = P) := by
      show _ = _
      rw [← HP.out, Bool.eq_iff_iff]
      simp only [tt_iff]
      constructor
      · intro h
        refine ⟨h, fun hk => ?_⟩
        have hk' : 4 ≤ k ∧ k ≤ 6 := hk
        have := HF.out
        unfold isRefV at this
        rw [h] at this
        simp at this
        omega
      · exact fun h => h.1
    go_enter Tryz.func125, Tryz.ntmps125
    go_wp2_with (first
      | (go_at_call 152; obtain ⟨g0, g1, g2⟩ := HC.out _ rfl; have HQ := impl_IsReference_any k nn t r _ HX.out (classes_go HT.out g1); refine Calls.mono HQ ?_; clear HQ; rintro e w1 ⟨rfl, hb⟩; rw [HF.out]; have HR1 := Lib.hid (g0.below hb g2); have HB1 := Lib.hid (g1.trans (hb.mono g1.size)); have q0 : w1.cell? ⟨W.heap.size, 0, none⟩ = some (.int .i64 k) := HR1.out.cell 0; have q1 : w1.cell? ⟨W.heap.size, 1, none⟩ = some (.int .i64 nn) := HR1.out.cell 1; have q2 : w1.cell? ⟨W.heap.size, 2, none⟩ = some (.string t) := HR1.out.cell 2; have q3 : w1.cell? ⟨W.heap.size, 3, none⟩ = some (.int .i64 r) := HR1.out.cell 3; clear g0 g1 g2 hb)
      | (go_at_call 61; have HQ := impl_ValidValue_any k nn t r w1 HX.out (classes_go HT.out HB1.out); refine Calls.mono HQ ?_; clear HQ; rintro e w2 ⟨rfl, hb⟩; rw [HPV.out]; have HB2 := Lib.hid (HB1.out.trans (hb.mono HB1.out.size)); clear hb q0 q1 q2 q3))
    all_goals go_ret
    all_goals exact ⟨rfl, HB2.out⟩
  obtain ⟨hk, hv, hwf⟩ := valid_ref HF.out
  have HKK := Lib.hid hk
  have HV := Lib.hid hv
  have HWF := Lib.hid hwf
  clear hk hv hwf
  by_cases hex : ∃ (j : Nat) (o : Ob), j < n ∧ os[j]? = some o ∧ o.id = r
  · obtain ⟨j, o, hj, ho, hid⟩ := hex
    have HLK : Hid (∀ w1, Below W.heap.size W w1 → (Instr.lookup 135 (.map (some m)) (.int .i64 r) true).run Tryz.prog w1 = .ok (.tuple #[.pointer (some ⟨b, off + j * 10, none⟩), .bool true]) w1) := by
      intro w1 hb1
      rcases (HI.out.below hb1 HM.out).look r HWF.out with ⟨j', o', hj', ho', hid', hrun⟩ | ⟨hno, _⟩
      · have e := rising_inj HRI.out ho ho' (by rw [hid, hid'])
        rw [e]
        exact hrun
      · exact absurd hid (hno j o hj ho)
    obtain ⟨z, hz⟩ : ∃ z, (refKind o == k) = z := ⟨_, rfl⟩
    have HPZ : Hid (P = z) := by
      show _ = _
      rw [← HP.out, ← hz, Bool.eq_iff_iff]
      simp only [tt_iff, beq_iff_eq]
      rw [refKind_iff HKK.out]
      constructor
      · intro h
        obtain ⟨i, o2, h1, h2, h3⟩ := h.2 HKK.out
        have e := rising_inj HRI.out h1 ho (by rw [h2, hid])
        rw [e, ho, Option.some.injEq] at h1
        rw [h1]
        exact h3
      · exact fun h => ⟨HV.out, fun _ => ⟨j, o, ho, hid, h⟩⟩
    have HJ := Lib.hid hj
    have HO := Lib.hid ho
    clear hj ho hid
    go_enter Tryz.func125, Tryz.ntmps125
    go_wp2_with (go_at_call 152; obtain ⟨g0, g1, g2⟩ := HC.out _ rfl; have HQ := impl_IsReference_any k nn t r _ HX.out (classes_go HT.out g1); refine Calls.mono HQ ?_; clear HQ; rintro e w1 ⟨rfl, hb⟩; rw [HF.out]; have HR1 := Lib.hid (g0.below hb g2); have HB1 := Lib.hid (g1.trans (hb.mono g1.size)); have q3 : w1.cell? ⟨W.heap.size, 3, none⟩ = some (.int .i64 r) := HR1.out.cell 3; have hrun := HLK.out w1 HB1.out; clear g0 g1 g2 hb)
    obtain ⟨b', off', o', l, hA, hg, hx, ⟨p0, p1, p2, p3, p4, p5, p6, p7, p8, p9⟩, _⟩ := (HR.out.go HB1.out).at_ HJ.out
    simp only [Option.some.injEq, Addr.mk.injEq, and_true] at hA
    obtain ⟨rfl, rfl⟩ := hA
    obtain rfl : o = o' := Option.some.inj (HO.out.symm.trans hx)
    have x0 := cell_regrown p0
    have x1 := cell_regrown p1
    have x2 := cell_regrown p2
    have x3 := cell_regrown p3
    have x4 := cell_regrown p4
    have x5 := cell_regrown p5
    have x6 := cell_regrown p6
    have x7 := cell_regrown p7
    have x8 := cell_regrown p8
    have x9 := cell_regrown p9
    have y0 := cell_regrown (HR1.out.cell 0)
    have cR : ∀ d os', Calls Tryz.prog 153 #[.agg #[.int .i64 o.id, .int .i64 o.kind, .string o.name, .int .i64 o.low, .slice l.Ak l.nk l.ck, .slice l.Av l.nv l.cv, .int .i64 o.d.k, .int .i64 o.d.n, .string o.d.t, .int .i64 o.d.r]] (grow (redrawn w1 d) os') (fun e w'' => e = .returned (.int .i64 (refKind o)) ∧ ∃ q : Regrown, w'' = grow (redrawn w1 q.d) q.os) := fun d os' => Calls.regrown_of (referenceKind_any o l _)
    clear hx hg p0 p1 p2 p3 p4 p5 p6 p7 p8 p9 q3 hrun
    refine wp_region_quiet_below (by kernel_rfl) (by kernel_rfl) ?_
    repeat (first | go_big_quiet_step (exact cR _ _) | quiet_step (exact cR _ _))
    refine wpQuiet_nil ?_
    intro w4 hw'
    obtain ⟨⟨dq, osq⟩, hw''⟩ := hw'
    have HB4 : Hid (Below W.heap.size W w4) := by show Below _ _ _; rw [hw'']; exact HB1.out.trans ((below_regrown w1 dq osq).mono HB1.out.size)
    clear hw'' x0 x1 x2 x3 x4 x5 x6 x7 x8 x9 y0 cR
    go_wp2_with fail
    go_ret
    exact ⟨by rw [HPZ.out]; rfl, HB4.out⟩
  · have HLK : Hid (∀ w1, Below W.heap.size W w1 → ∃ v, (Instr.lookup 135 (.map (some m)) (.int .i64 r) true).run Tryz.prog w1 = .ok (.tuple #[v, .bool false]) w1) := by
      intro w1 hb1
      rcases (HI.out.below hb1 HM.out).look r HWF.out with ⟨j', o', hj', ho', hid', hrun⟩ | ⟨_, hrun⟩
      · exact absurd ⟨j', o', hj', ho', hid'⟩ hex
      · exact hrun
    have HF1 : Hid (P = false) := by
      show _ = _
      rw [← HP.out]
      refine tt_false fun h => ?_
      obtain ⟨i, o2, h1, h2, _⟩ := h.2 HKK.out
      exact hex ⟨i, o2, by rw [← HR.out.1]; exact (List.getElem?_eq_some_iff.1 h1).1, h1, h2⟩
    clear hex
    go_enter Tryz.func125, Tryz.ntmps125
    go_wp2_with (go_at_call 152; obtain ⟨g0, g1, g2⟩ := HC.out _ rfl; have HQ := impl_IsReference_any k nn t r _ HX.out (classes_go HT.out g1); refine Calls.mono HQ ?_; clear HQ; rintro e w1 ⟨rfl, hb⟩; rw [HF.out]; have HR1 := Lib.hid (g0.below hb g2); have HB1 := Lib.hid (g1.trans (hb.mono g1.size)); have q3 : w1.cell? ⟨W.heap.size, 3, none⟩ = some (.int .i64 r) := HR1.out.cell 3; obtain ⟨v0, hrun⟩ := HLK.out w1 HB1.out; clear g0 g1 g2 hb)
    have y0 := cell_regrown (HR1.out.cell 0)
    clear q3 hrun
    refine wp_region_quiet_below (by kernel_rfl) (by kernel_rfl) ?_
    repeat (first | go_big_quiet_step (fail) | quiet_step (fail))
    refine wpQuiet_nil ?_
    intro w4 hw'
    obtain ⟨⟨dq, osq⟩, hw''⟩ := hw'
    have HB4 : Hid (Below W.heap.size W w4) := by show Below _ _ _; rw [hw'']; exact HB1.out.trans ((below_regrown w1 dq osq).mono HB1.out.size)
    clear hw'' y0
    go_wp2_with fail
    go_ret
    exact ⟨by rw [HF1.out]; rfl, HB4.out⟩

set_option maxHeartbeats 1000000 in
set_option maxRecDepth 100000 in
theorem fitAll_any (m b off nn : Nat) (os : List Ob) (A : Option Addr) (n c : Nat) (xs : List Vl) (W : World) (hi : IdxM W m b off os nn) (hm : m < W.heap.size) (ho : OI W W.heap.size (some ⟨b, off, none⟩) nn os) (hri : Rising os) (hr : VI W W.heap.size A n xs) (hT : Classes W) :
    Calls Tryz.prog 90 #[.map (some m), .slice A n c] W fun e w' => e = .returned (.bool (tt (FitAll os xs))) ∧ Below W.heap.size W w' := by
  have HR := Lib.hid hr
  have HT := Lib.hid hT
  have HI := Lib.hid hi
  have HM := Lib.hid hm
  have HO := Lib.hid ho
  have HRI := Lib.hid hri
  have hn := hr.2.1
  have HN := Lib.hid hr.1
  unfold maxLen at hn
  clear hr hT hi hm ho hri
  obtain ⟨P, hP⟩ : ∃ P, tt (FitAll os xs) = P := ⟨_, rfl⟩
  have HP := Lib.hid hP
  rw [hP]
  clear hP
  go_enter Tryz.func90, Tryz.ntmps90
  go_wp2_with fail
  go_loopw [9] (fun i wr => ∃ k : Nat, k ≤ n ∧ i = .int .i64 k ∧ Hid (Below W.heap.size W wr) ∧ Hid (∀ (j : Nat) (x : Vl), j < k → xs[j]? = some x → Fits os x)) (fun i _ => n - (intOf i).toNat)
  case atStart => exact ⟨0, Nat.zero_le _, rfl, Below.refl _ _, fun j x hj => absurd hj (by omega)⟩
  case round =>
    obtain ⟨k, hk, rfl, HW, HV⟩ := hrel
    by_cases hlt : k < n
    · obtain ⟨b2, off2, x, rfl, hg, hx, ⟨q0, q1, q2, q3⟩, hxs⟩ := (HR.out.below HW.out).at_ hlt
      have HX := Lib.hid hx
      have HXS := Lib.hid hxs
      obtain ⟨v, hv⟩ : ∃ v, tt (Fits os x) = v := ⟨_, rfl⟩
      have HVX := Lib.hid hv
      have HC := Lib.hid (one_new wr 36 #[.int .i64 x.k, .int .i64 x.n, .string x.t, .int .i64 x.r])
      have b0 : (0 : Int) ≤ (k : Int) := by omega
      have b1 : (k : Int) < (n : Int) := by omega
      clear hx hxs hg hv
      cases v
      · have HF : Hid (P = false) := by
          show _ = _
          rw [← HP.out]
          exact tt_false fun h => of_tt_false HVX.out (h k x HX.out)
        go_wp2_with (go_at_call 125; obtain ⟨g0, g1, g2⟩ := HC.out _ rfl; have hbx := HW.out.trans (g1.mono HW.out.size); have HQ := fits_any m b off nn os x _ (HI.out.below hbx HM.out) (Nat.lt_of_lt_of_le HM.out hbx.size) (HO.out.go hbx) HRI.out HXS.out (classes_go HT.out hbx); refine Calls.mono HQ ?_; clear HQ; rintro e w1 ⟨rfl, hb⟩; rw [HVX.out]; have HW1 : Hid (Below W.heap.size W w1) := (HW.out.trans (g1.mono HW.out.size)).trans (hb.mono (Nat.le_trans HW.out.size g1.size)); clear hb hbx g0 g1 g2)
        go_ret
        exact ⟨by rw [HF.out]; rfl, HW1.out⟩
      · go_wp2_with (go_at_call 125; obtain ⟨g0, g1, g2⟩ := HC.out _ rfl; have hbx := HW.out.trans (g1.mono HW.out.size); have HQ := fits_any m b off nn os x _ (HI.out.below hbx HM.out) (Nat.lt_of_lt_of_le HM.out hbx.size) (HO.out.go hbx) HRI.out HXS.out (classes_go HT.out hbx); refine Calls.mono HQ ?_; clear HQ; rintro e w1 ⟨rfl, hb⟩; rw [HVX.out]; have HW1 : Hid (Below W.heap.size W w1) := (HW.out.trans (g1.mono HW.out.size)).trans (hb.mono (Nat.le_trans HW.out.size g1.size)); clear hb hbx g0 g1 g2)
        have HNX : Hid (∀ (j : Nat) (x : Vl), j < k + 1 → xs[j]? = some x → Fits os x) := by
          intro j y hj hy
          by_cases e : j = k
          · rw [e, HX.out, Option.some.injEq] at hy
            subst hy
            exact of_tt HVX.out
          · exact HV.out j y (by omega) hy
        go_roundw
        case rel => exact ⟨k + 1, by omega, by go_num, HW1, HNX⟩
        case measure => simp [intOf]; omega
    · have hkn : k = n := by omega
      have HTT : Hid (P = true) := by
        show _ = _
        rw [← HP.out]
        refine tt_true fun j x hx => HV.out j x ?_ hx
        have := (List.getElem?_eq_some_iff.1 hx).1
        have := HN.out
        omega
      go_wp2_with fail
      go_ret
      exact ⟨by rw [HTT.out]; rfl, HW.out⟩
end Go.Proofs.YtfcpdjfckeoniaaGreatDoor

namespace Go.Proofs.YtfcpdjfckeoniaaGreatDoor
open Go Go.RowKit

def cellsV : List Vl → List Value
  | [] => []
  | x :: xs => x.vs ++ cellsV xs
theorem cellsV_append : ∀ (a b : List Vl), cellsV (a ++ b) = cellsV a ++ cellsV b
  | [], b => rfl
  | x :: a, b => by rw [List.cons_append, cellsV, cellsV, cellsV_append a b, List.append_assoc]
theorem cellsV_length : ∀ (a : List Vl), (cellsV a).length = a.length * 4
  | [] => rfl
  | x :: a => by
    rw [cellsV, List.length_append, cellsV_length a, List.length_cons]
    show 4 + _ = _
    omega
theorem cellsV_at : ∀ {xs : List Vl} {j q : Nat} {x : Vl} {v : Value}, xs[j]? = some x → x.vs[q]? = some v → (cellsV xs)[j * 4 + q]? = some v
  | [], j, q, x, v, h, _ => by simp at h
  | y :: xs, 0, q, x, v, h, hv => by
    simp only [List.getElem?_cons_zero, Option.some.injEq] at h
    subst h
    have hq : q < y.vs.length := (List.getElem?_eq_some_iff.1 hv).1
    rw [cellsV, Nat.zero_mul, Nat.zero_add, List.getElem?_append_left hq]
    exact hv
  | y :: xs, j + 1, q, x, v, h, hv => by
    have ih := cellsV_at (xs := xs) (j := j) (q := q) (by simpa using h) hv
    have hl : y.vs.length = 4 := rfl
    rw [cellsV, List.getElem?_append_right (by rw [hl]; omega), hl, show (j + 1) * 4 + q - 4 = j * 4 + q by omega]
    exact ih
/-- A row of n values of one's own. -/
abbrev OwnV (w : World) (B : Nat) (v : Value) (n : Nat) (xs : List Vl) : Prop := w.ownsRow B 36 4 v n (cellsV xs)
theorem ownV_form {w : World} {B n : Nat} {v : Value} {xs : List Vl} (h : OwnV w B v n xs) : ∃ A c, v = .slice A n c := by
  rcases h.2 with ⟨rfl, h0⟩ | ⟨g, cap, cur, rfl, hg, hh, hnc, _, hcs, ht⟩
  · exact ⟨none, 0, by rw [h0]⟩
  · exact ⟨_, _, rfl⟩
/-- As a slice that reads. -/
theorem ownV_VI {w : World} {B n c : Nat} {A : Option Addr} {xs : List Vl} (h : OwnV w B (.slice A n c) n xs) (hl : xs.length = n) (hn : n ≤ maxLen) (hs : ∀ x ∈ xs, x.t.size ≤ maxLen) : VI w w.heap.size A n xs := by
  refine ⟨hl, hn, fun hn0 => ?_⟩
  rcases h.2 with ⟨h', h0⟩ | ⟨g, cap, cur, h', hg, hh, hnc, _, hcs, ht⟩
  · omega
  · simp only [Value.slice.injEq, true_and] at h'
    obtain ⟨rfl, _⟩ := h'
    have hlt : g < w.heap.size := by
      rcases Nat.lt_or_ge g w.heap.size with hlt | hge
      · exact hlt
      · rw [Array.getElem?_eq_none hge] at hh; cases hh
    refine ⟨g, 0, rfl, hlt, fun j x hx => ?_⟩
    have hj : j < n := by rw [← hl]; exact (List.getElem?_eq_some_iff.1 hx).1
    have key : ∀ q v, x.vs[q]? = some v → w.cell? ⟨g, 0 + j * 4 + q, none⟩ = some v := by
      intro q v hq
      have hq4 : q < 4 := (List.getElem?_eq_some_iff.1 hq).1
      rw [Nat.zero_add, cell_of_row w g _ cur _ (0, 0) hh]
      have h1 := congrArg (·[j * 4 + q]?) ht
      simp only [List.getElem?_take, if_pos (show j * 4 + q < n * 4 by omega), cellsV_at hx hq] at h1
      rw [← Array.getElem?_toList]
      exact h1
    exact ⟨⟨key 0 _ rfl, key 1 _ rfl, key 2 _ rfl, key 3 _ rfl⟩, hs x (List.mem_of_getElem? hx)⟩
theorem grownV {w w' : World} (h : Below w.heap.size w w') (row : Option Nat) : w.grownBy w' row := ⟨h.os, h.tape, h.output, h.size, fun j hj _ => h.block j hj⟩
theorem ownV_keep {w w' : World} {B n : Nat} {v : Value} {xs : List Vl} (h : OwnV w B v n xs) (hb : Below w.heap.size w w') : OwnV w' B v n xs :=
  h.kept (grownV hb none) (by cases hv : v.ownBlock <;> simp)
theorem ownV_ge {w : World} {B n : Nat} {v : Value} {xs : List Vl} (h : OwnV w B v n xs) : ∀ k, v.ownBlock = some k → B ≤ k := fun b hb => (h.lt b hb).1
theorem ownV_nil (w : World) (B : Nat) (h : B ≤ w.heap.size) : OwnV w B (.slice none 0 0) 0 [] := by
  first
  | exact World.ownsRow_nil _ _ _ _
  | exact ⟨h, .inl ⟨rfl, rfl⟩⟩
  | exact ⟨by simp [cellsV], .inl ⟨rfl, rfl⟩⟩
end Go.Proofs.YtfcpdjfckeoniaaGreatDoor

namespace Go.Proofs.YtfcpdjfckeoniaaGreatDoor
open Go Go.RowKit Go.Sort

theorem VI_row {w : World} {B : Nat} {o : Ob} {l : Lay} (h : OV w B o l) : VI w B l.Av l.nv o.vals := h.2.1

set_option maxHeartbeats 2000000 in
set_option maxRecDepth 100000 in
theorem valuesOf_1 (o : Ob) (l : Lay) (W : World) (k1 : o.kind = 1) :
    Calls Tryz.prog 124 #[o.ag l] W fun e w' => e = .returned (.slice l.Av l.nv l.cv) ∧ Below W.heap.size W w' := by
  have HK : Hid (kindV o l = .iface 209 (o.ag l)) := by show _ = _; unfold kindV; rw [if_pos k1]
  have HC := Lib.hid (one_new W 170 (o.vs l).toArray)
  clear k1
  have a0 := as_arrayObject_arrayObject o l
  have a1 := as_arrayObject_tableObject o l
  have a2 := as_arrayObject_recordObject o l
  show Calls Tryz.prog 124 #[.agg #[.int .i64 o.id, .int .i64 o.kind, .string o.name, .int .i64 o.low, .slice l.Ak l.nk l.ck, .slice l.Av l.nv l.cv, .int .i64 o.d.k, .int .i64 o.d.n, .string o.d.t, .int .i64 o.d.r]] W _
  go_enter Tryz.func124, Tryz.ntmps124
  go_wp2_with (go_at_call 150; obtain ⟨g0, g1, g2⟩ := HC.out _ rfl; refine (ofKind_any o l _).mono ?_; rintro e w1 ⟨rfl, hb⟩; rw [HK.out]; have HB1 := Lib.hid (g1.trans (hb.mono g1.size)); clear g0 g1 g2 hb)
  all_goals go_ret
  all_goals exact ⟨rfl, HB1.out.alloc HB1.out.size _⟩

set_option maxHeartbeats 2000000 in
set_option maxRecDepth 100000 in
theorem valuesOf_3 (o : Ob) (l : Lay) (W : World) (k1 : o.kind = 3) :
    Calls Tryz.prog 124 #[o.ag l] W fun e w' => e = .returned (.slice l.Av l.nv l.cv) ∧ Below W.heap.size W w' := by
  have HK : Hid (kindV o l = .iface 212 (o.ag l)) := by show _ = _; unfold kindV; simp [k1]
  have HC := Lib.hid (one_new W 170 (o.vs l).toArray)
  clear k1
  have a0 := as_recordObject_arrayObject o l
  have a1 := as_recordObject_tableObject o l
  have a2 := as_recordObject_recordObject o l
  show Calls Tryz.prog 124 #[.agg #[.int .i64 o.id, .int .i64 o.kind, .string o.name, .int .i64 o.low, .slice l.Ak l.nk l.ck, .slice l.Av l.nv l.cv, .int .i64 o.d.k, .int .i64 o.d.n, .string o.d.t, .int .i64 o.d.r]] W _
  go_enter Tryz.func124, Tryz.ntmps124
  go_wp2_with (go_at_call 150; obtain ⟨g0, g1, g2⟩ := HC.out _ rfl; refine (ofKind_any o l _).mono ?_; rintro e w1 ⟨rfl, hb⟩; rw [HK.out]; have HB1 := Lib.hid (g1.trans (hb.mono g1.size)); clear g0 g1 g2 hb)
  all_goals go_ret
  all_goals exact ⟨rfl, HB1.out.alloc HB1.out.size _⟩

theorem pairs_nil_left (vs : List Vl) : pairsOf [] vs = [] := by cases vs <;> rfl
theorem pairs_next : ∀ {ks vs : List Vl} {k : Nat} {x y : Vl}, ks[k]? = some x → vs[k]? = some y → pairsOf (ks.take (k + 1)) (vs.take (k + 1)) = pairsOf (ks.take k) (vs.take k) ++ [x, y]
  | [], vs, k, x, y, h, _ => by simp at h
  | a :: ks, [], k, x, y, _, h => by simp at h
  | a :: ks, b :: vs, 0, x, y, h, h' => by
    simp only [List.getElem?_cons_zero, Option.some.injEq] at h h'
    subst h h'
    simp [pairsOf]
  | a :: ks, b :: vs, k + 1, x, y, h, h' => by
    have ih := pairs_next (ks := ks) (vs := vs) (k := k) (by simpa using h) (by simpa using h')
    simp only [List.take_succ_cons, pairsOf, ih, List.cons_append]
theorem pairs_length : ∀ (ks vs : List Vl), ks.length = vs.length → (pairsOf ks vs).length = 2 * ks.length
  | [], vs, h => by rw [pairs_nil_left]; rfl
  | a :: ks, [], h => by simp at h
  | a :: ks, b :: vs, h => by
    have ih := pairs_length ks vs (by simpa using h)
    simp only [pairsOf, List.length_cons, ih]
    omega
theorem ownV_two {w : World} {B n : Nat} {v : Value} {xs : List Vl} (x y : Vl) (h : w.ownsRow B 36 4 v (n + 2) (cellsV xs ++ [.int .i64 x.k, .int .i64 x.n, .string x.t, .int .i64 x.r, .int .i64 y.k, .int .i64 y.n, .string y.t, .int .i64 y.r])) : OwnV w B v (n + 2) (xs ++ [x, y]) := by
  unfold OwnV
  rw [cellsV_append]
  exact h
theorem ownV_one {w : World} {B n : Nat} {v : Value} {xs : List Vl} (x : Vl) (h : w.ownsRow B 36 4 v (n + 1) (cellsV xs ++ [.int .i64 x.k, .int .i64 x.n, .string x.t, .int .i64 x.r])) : OwnV w B v (n + 1) (xs ++ [x]) := by
  unfold OwnV
  rw [cellsV_append]
  exact h
/-- What contents answers. -/
def ConT (o : Ob) (W : World) (e : Ending) (w' : World) : Prop := ∃ A n c, e = .returned (.slice A n c) ∧ Hid (VI w' w'.heap.size A n (pairsOf o.keys o.vals ++ [o.d]) ∧ Below W.heap.size W w')

/-- The cells of the round. -/
abbrev FlatC (g p : Nat) (xk xn : Int) (xt : ByteArray) (xr : Int) (Av : Option Addr) (nv cv : Nat) (b off : Nat) (yk yn : Int) (yt : ByteArray) (yr : Int) (w : World) : Prop :=
  (w.cell? ⟨g, 0, none⟩ = some (.int .i64 xk) ∧ w.cell? ⟨g, 1, none⟩ = some (.int .i64 xn) ∧ w.cell? ⟨g, 2, none⟩ = some (.string xt) ∧ w.cell? ⟨g, 3, none⟩ = some (.int .i64 xr)) ∧ w.cell? ⟨p, 5, none⟩ = some (.slice Av nv cv) ∧
  (w.cell? ⟨b, off, none⟩ = some (.int .i64 yk) ∧ w.cell? ⟨b, off + 1, none⟩ = some (.int .i64 yn) ∧ w.cell? ⟨b, off + 2, none⟩ = some (.string yt) ∧ w.cell? ⟨b, off + 3, none⟩ = some (.int .i64 yr))

theorem FlatC.far {g p : Nat} {xk xn : Int} {xt : ByteArray} {xr : Int} {Av : Option Addr} {nv cv : Nat} {b off : Nat} {yk yn : Int} {yt : ByteArray} {yr : Int} {w w' : World} {row : Option Nat} (h : FlatC g p xk xn xt xr Av nv cv b off yk yn yt yr w) (hg : w.grownBy w' row)
    (h1 : g < w.heap.size) (h2 : p < w.heap.size) (h3 : b < w.heap.size) (n1 : some g ≠ row) (n2 : some p ≠ row) (n3 : some b ≠ row) : FlatC g p xk xn xt xr Av nv cv b off yk yn yt yr w' := by
  obtain ⟨⟨a0, a1, a2, a3⟩, a4, a5, a6, a7, a8⟩ := h
  exact ⟨⟨(hg.cell_far ⟨g, 0, none⟩ h1 n1).trans a0, (hg.cell_far ⟨g, 1, none⟩ h1 n1).trans a1, (hg.cell_far ⟨g, 2, none⟩ h1 n1).trans a2, (hg.cell_far ⟨g, 3, none⟩ h1 n1).trans a3⟩, (hg.cell_far ⟨p, 5, none⟩ h2 n2).trans a4,
    (hg.cell_far ⟨b, off, none⟩ h3 n3).trans a5, (hg.cell_far ⟨b, off + 1, none⟩ h3 n3).trans a6, (hg.cell_far ⟨b, off + 2, none⟩ h3 n3).trans a7, (hg.cell_far ⟨b, off + 3, none⟩ h3 n3).trans a8⟩

theorem FlatC.below {g p : Nat} {xk xn : Int} {xt : ByteArray} {xr : Int} {Av : Option Addr} {nv cv : Nat} {b off : Nat} {yk yn : Int} {yt : ByteArray} {yr : Int} {B : Nat} {w w' : World} (h : FlatC g p xk xn xt xr Av nv cv b off yk yn yt yr w) (hb : Below B w w')
    (h1 : g < B) (h2 : p < B) (h3 : b < B) : FlatC g p xk xn xt xr Av nv cv b off yk yn yt yr w' := by
  obtain ⟨⟨a0, a1, a2, a3⟩, a4, a5, a6, a7, a8⟩ := h
  exact ⟨⟨(hb.cell (p := ⟨g, 0, none⟩) h1).trans a0, (hb.cell (p := ⟨g, 1, none⟩) h1).trans a1, (hb.cell (p := ⟨g, 2, none⟩) h1).trans a2, (hb.cell (p := ⟨g, 3, none⟩) h1).trans a3⟩, (hb.cell (p := ⟨p, 5, none⟩) h2).trans a4,
    (hb.cell (p := ⟨b, off, none⟩) h3).trans a5, (hb.cell (p := ⟨b, off + 1, none⟩) h3).trans a6, (hb.cell (p := ⟨b, off + 2, none⟩) h3).trans a7, (hb.cell (p := ⟨b, off + 3, none⟩) h3).trans a8⟩

set_option maxHeartbeats 2000000 in
set_option maxRecDepth 100000 in
theorem contents_any (o : Ob) (l : Lay) (W : World) (ho : OV W W.heap.size o l) (hn : o.keys.length ≤ 30) (hl : o.keys.length = o.vals.length) :
    Calls Tryz.prog 151 #[o.ag l] W (ConT o W) := by
  obtain ⟨i0, hi0, hz0, hz1, hz2⟩ := info_parts valInfo
  obtain ⟨id, kind, name, low, ks, vs, ⟨dk, dn, dt, dr⟩⟩ := o
  obtain ⟨Ak, nk, ck, Av, nv, cv, hck, hcv⟩ := l
  obtain ⟨hk, hv, _, hd⟩ := ho
  dsimp only at hk hv hn hl hd
  obtain rfl : nv = nk := by rw [← hv.1, ← hk.1, hl]
  have hnk : nv ≤ 30 := by rw [← hk.1]; exact hn
  have HK := Lib.hid hk
  have HV := Lib.hid hv
  have HD := Lib.hid hd
  have HL := Lib.hid hl
  clear hk hv hn hd hl
  have HC := Lib.hid (fun X (e : X = W.alloc (.cells #[.int .i64 id, .int .i64 kind, .string name, .int .i64 low, .slice Ak nv ck, .slice Av nv cv, .int .i64 dk, .int .i64 dn, .string dt, .int .i64 dr] 210)) => (show RW 210 X W.heap.size #[.int .i64 id, .int .i64 kind, .string name, .int .i64 low, .slice Ak nv ck, .slice Av nv cv, .int .i64 dk, .int .i64 dn, .string dt, .int .i64 dr] ∧ Below W.heap.size W X ∧ X.heap.size = W.heap.size + 1 from by rw [e]; exact ⟨RW.new _ _ _, below_alloc _ _, by simp⟩))
  show Calls Tryz.prog 151 #[.agg #[.int .i64 id, .int .i64 kind, .string name, .int .i64 low, .slice Ak nv ck, .slice Av nv cv, .int .i64 dk, .int .i64 dn, .string dt, .int .i64 dr]] W _
  go_enter Tryz.func151, Tryz.ntmps151
  go_wp2_with fail
  have HX := Lib.hid (HC.out _ rfl)
  clear HC
  go_loopw [3, 9] (fun v i wr => ∃ k : Nat, k ≤ nv ∧ i = .int .i64 k ∧ Hid (OwnV wr (W.heap.size + 1) v (2 * k) (pairsOf (ks.take k) (vs.take k))) ∧ Hid (RW 210 wr W.heap.size #[.int .i64 id, .int .i64 kind, .string name, .int .i64 low, .slice Ak nv ck, .slice Av nv cv, .int .i64 dk, .int .i64 dn, .string dt, .int .i64 dr]) ∧ Hid (Below W.heap.size W wr) ∧ Hid (W.heap.size + 1 ≤ wr.heap.size)) (fun _ i _ => nv - (intOf i).toNat)
  case atStart => exact ⟨0, Nat.zero_le _, rfl, ownV_nil _ _ (by simp), HX.out.1, HX.out.2.1, by show _ ≤ _; simp⟩
  case round =>
    obtain ⟨k, hk, rfl, HO, HR, HW, HZ⟩ := hrel
    rename Value => vv
    obtain ⟨A9, c9, rfl⟩ := ownV_form HO.out
    by_cases hlt : k < nv
    · obtain ⟨bb1, off1, x, hAk, hg1, hx, h1, hxs⟩ := (HK.out.below HW.out).at_ hlt
      obtain ⟨b2, off2, y, hAv, hg2, hy, h2, hys⟩ := (HV.out.below HW.out).at_ hlt
      subst hAk hAv
      obtain ⟨xk, xn, xt, xr⟩ := x
      obtain ⟨yk, yn, yt, yr⟩ := y
      obtain ⟨p0, p1, p2, p3⟩ := h1
      obtain ⟨q0, q1, q2, q3⟩ := h2
      dsimp only at p0 p1 p2 p3 q0 q1 q2 q3
      have HX := Lib.hid hx
      have HY := Lib.hid hy
      have HG2 := Lib.hid hg2
      have HF := Lib.hid (fun X (e : X = wr.alloc (.cells #[.int .i64 xk, .int .i64 xn, .string xt, .int .i64 xr] 36)) => (show FlatC wr.heap.size W.heap.size xk xn xt xr (some ⟨b2, off2, none⟩) nv cv b2 (off2 + k * 4) yk yn yt yr X ∧ OwnV X (W.heap.size + 1) (.slice A9 (2 * k) c9) (2 * k) (pairsOf (ks.take k) (vs.take k)) ∧ Below wr.heap.size wr X ∧ X.heap.size = wr.heap.size + 1 from by
        subst e
        have hb := below_alloc wr (.cells #[.int .i64 xk, .int .i64 xn, .string xt, .int .i64 xr] 36)
        have hr := RW.new wr #[.int .i64 xk, .int .i64 xn, .string xt, .int .i64 xr] 36
        have hlt := Nat.lt_of_lt_of_le hg2 HW.out.size
        exact ⟨⟨⟨hr.cell 0, hr.cell 1, hr.cell 2, hr.cell 3⟩, (HR.out.alloc _).cell 5, V4o.below (x := ⟨yk, yn, yt, yr⟩) ⟨q0, q1, q2, q3⟩ hb hlt⟩, ownV_keep HO.out hb, hb, by simp⟩))
      have b0 : (0 : Int) ≤ (k : Int) := by omega
      have b1 : (k : Int) < (nv : Int) := by omega
      clear hx hy hg1 hg2 hxs hys q0 q1 q2 q3
      go_wp2_with fail
      obtain ⟨wa, hwa⟩ : ∃ wa, wa = wr.alloc (.cells #[.int .i64 xk, .int .i64 xn, .string xt, .int .i64 xr] 36) := ⟨_, rfl⟩
      rw [← hwa]
      obtain ⟨f1, f2, f3, f4⟩ := HF.out wa hwa
      have HFL := Lib.hid f1
      have HO2 := Lib.hid f2
      have HB2 := Lib.hid f3
      have HS2 := Lib.hid f4
      have N0 : Hid (some wr.heap.size ≠ (Value.slice A9 (2 * k) c9).ownBlock) := fun e => by have := (HO.out.lt _ e.symm).2; omega
      have N1 : Hid (some W.heap.size ≠ (Value.slice A9 (2 * k) c9).ownBlock) := fun e => by have := (HO.out.lt _ e.symm).1; omega
      have N2 : Hid (some b2 ≠ (Value.slice A9 (2 * k) c9).ownBlock) := fun e => by have := (HO.out.lt _ e.symm).1; have := HG2.out; omega
      clear f1 f2 f3 f4 HF p0 p1 p2 p3 hwa
      have G0 : Hid (wr.heap.size < wa.heap.size) := by have := HS2.out; show _ < _; omega
      have G1 : Hid (W.heap.size < wa.heap.size) := by have := HS2.out; have := HZ.out; show _ < _; omega
      have G2 : Hid (b2 < wa.heap.size) := by have := HS2.out; have := HZ.out; have := HG2.out; show _ < _; omega
      have HD3 : Hid (∀ cs T, FlatC wr.heap.size W.heap.size xk xn xt xr (some ⟨b2, off2, none⟩) nv cv b2 (off2 + k * 4) yk yn yt yr (wa.alloc (.cells cs T)).drew) := fun cs T => HFL.out.below (below_alloc wa (.cells cs T)).drew G0.out G1.out G2.out
      have HD2 : Hid (FlatC wr.heap.size W.heap.size xk xn xt xr (some ⟨b2, off2, none⟩) nv cv b2 (off2 + k * 4) yk yn yt yr wa.drew) := HFL.out
      go_region_held3 (fun w' => FlatC wr.heap.size W.heap.size xk xn xt xr (some ⟨b2, off2, none⟩) nv cv b2 (off2 + k * 4) yk yn yt yr w')
        (first | exact HD2.out | exact HD3.out _ _ | exact (HD3.out _ _).far hgr1 (Nat.lt_of_lt_of_le G0.out (by simp)) (Nat.lt_of_lt_of_le G1.out (by simp)) (Nat.lt_of_lt_of_le G2.out (by simp)) N0.out N1.out N2.out | go_keep)
        ((refine step_append_lies _ (by rfl) _ _ _ (by rfl) (W.heap.size + 1) 36 i0 (.agg #[.int .i64 0, .int .i64 0, .string ⟨#[]⟩, .int .i64 0]) 4 40 Tryz.underlying84 hi0 hz0 hz1 hz2 (by rfl) (by decide) (.slice A9 (2 * k) c9) (2 * k) (cellsV (pairsOf (ks.take k) (vs.take k))) (by rfl) ((show OwnV wa.drew (W.heap.size + 1) _ _ _ from HO2.out).alloc _) ⟨wa.heap.size, 0, none⟩ 2 2 [.int .i64 xk, .int .i64 xn, .string xt, .int .i64 xr, .int .i64 yk, .int .i64 yn, .string yt, .int .i64 yr] (by rfl) (by rfl) (fun j u hu => World.news_of_block (B := wa.heap.size) (cs := #[.int .i64 xk, .int .i64 xn, .string xt, .int .i64 xr, .int .i64 yk, .int .i64 yn, .string yt, .int .i64 yr]) (heap_alloc_new wa.drew _) j u (by simpa using hu)) (fun x hx => by simp at hx; rcases hx with rfl | rfl | rfl | rfl | rfl | rfl | rfl | rfl <;> rfl) (by decide) (by unfold maxLen; omega) (by omega) (by have := HS2.out; have := HZ.out; simp; omega) (wa.heap.size + 1) (by simp) ?_; intro g9 cap9 w7 hown1 hgr1 hat hlt9))
      have HROW : Hid (RW 210 w7 W.heap.size #[.int .i64 id, .int .i64 kind, .string name, .int .i64 low, .slice (some ⟨bb1, off1, none⟩) nv ck, .slice (some ⟨b2, off2, none⟩) nv cv, .int .i64 dk, .int .i64 dn, .string dt, .int .i64 dr]) := (hgr1.block W.heap.size (Nat.lt_of_lt_of_le G1.out (by simp)) N1.out).trans (show RW _ (wa.alloc (.cells _ _)) _ _ from ((HR.out.below HB2.out HR.out.lt).alloc _))
      have HBEL : Hid (Below W.heap.size W w7) := ((HW.out.trans (HB2.out.mono HW.out.size)).alloc (Nat.le_of_lt G1.out) _).drew.grown hgr1 (Nat.le_trans (Nat.le_of_lt G1.out) (by simp)) (fun b hb => by have := (HO.out.lt b hb).1; omega)
      have HSZ : Hid (W.heap.size + 1 ≤ w7.heap.size) := Nat.le_trans G1.out (Nat.le_trans (by simp) hgr1.size)
      have HOW : Hid (OwnV w7 (W.heap.size + 1) (.slice (some ⟨g9, 0, none⟩) (2 * k + 2) cap9) (2 * (k + 1)) (pairsOf (ks.take (k + 1)) (vs.take (k + 1)))) := by
        rw [pairs_next HX.out HY.out]
        exact ownV_two ⟨xk, xn, xt, xr⟩ ⟨yk, yn, yt, yr⟩ hown1
      clear hown1 hgr1 hat hlt9 HD2 HD3 HFL HO2
      go_wp2_with fail
      go_roundw
      case rel => exact ⟨k + 1, by omega, by go_num, HOW, HROW, HBEL, HSZ⟩
      case measure => simp [intOf]; omega
    · have hkn : k = nv := by omega
      have HOE : Hid (OwnV wr (W.heap.size + 1) (.slice A9 (2 * k) c9) (2 * k) (pairsOf ks vs)) := by
        have h := HO.out
        rw [List.take_of_length_le (by have := HK.out.1; omega), List.take_of_length_le (by have := HV.out.1; omega)] at h
        exact h
      have HN : Hid (2 * k ≤ 60) := by show _ ≤ _; omega
      have HLN : Hid ((pairsOf ks vs ++ [(⟨dk, dn, dt, dr⟩ : Vl)]).length = 2 * k + 1) := by
        show _ = _
        rw [List.length_append, pairs_length ks vs HL.out, HK.out.1, hkn]
        rfl
      have HSZ : Hid (∀ x ∈ pairsOf ks vs ++ [(⟨dk, dn, dt, dr⟩ : Vl)], x.t.size ≤ maxLen) := by
        intro x hx
        rcases List.mem_append.1 hx with h | h
        · rcases (mem_pairs HL.out).1 h with h | h
          · obtain ⟨j, hj⟩ := List.getElem?_of_mem h
            have hjl : j < nv := by rw [← HK.out.1]; exact (List.getElem?_eq_some_iff.1 hj).1
            obtain ⟨_, _, z, _, _, hz, _, hs⟩ := HK.out.at_ hjl
            rw [hj, Option.some.injEq] at hz
            rw [hz]; exact hs
          · obtain ⟨j, hj⟩ := List.getElem?_of_mem h
            have hjl : j < nv := by rw [← HV.out.1]; exact (List.getElem?_eq_some_iff.1 hj).1
            obtain ⟨_, _, z, _, _, hz, _, hs⟩ := HV.out.at_ hjl
            rw [hj, Option.some.injEq] at hz
            rw [hz]; exact hs
        · rw [List.mem_singleton] at h
          rw [h]; exact HD.out
      have q6 : wr.cell? ⟨W.heap.size, 6, none⟩ = some (.int .i64 dk) := HR.out.cell 6
      have q7 : wr.cell? ⟨W.heap.size, 7, none⟩ = some (.int .i64 dn) := HR.out.cell 7
      have q8 : wr.cell? ⟨W.heap.size, 8, none⟩ = some (.string dt) := HR.out.cell 8
      have q9 : wr.cell? ⟨W.heap.size, 9, none⟩ = some (.int .i64 dr) := HR.out.cell 9
      have HBE : Hid (∀ cs T w1, (wr.alloc (.cells cs T)).grownBy w1 (Value.slice A9 (2 * k) c9).ownBlock → Below W.heap.size W w1) := fun cs T w1 hg => (HW.out.alloc HW.out.size (.cells cs T)).grown hg (Nat.le_trans HW.out.size (by simp)) (fun b hb => by have := (HO.out.lt b hb).1; omega)
      clear hkn
      go_wp2_with (at_builtin; refine wpList_append_lies _ rfl _ _ 84 rfl (W.heap.size + 1) 36 i0 (.agg #[.int .i64 0, .int .i64 0, .string ⟨#[]⟩, .int .i64 0]) 4 40 Tryz.underlying84 hi0 hz0 hz1 hz2 rfl (by decide) (.slice A9 (2 * k) c9) (2 * k) (cellsV (pairsOf ks vs)) rfl (HOE.out.alloc _) ⟨wr.heap.size, 0, none⟩ 1 1 [.int .i64 dk, .int .i64 dn, .string dt, .int .i64 dr] rfl rfl (fun j u hu => World.news_of_block (B := wr.heap.size) (cs := #[.int .i64 dk, .int .i64 dn, .string dt, .int .i64 dr]) (heap_alloc_new wr _) j u (by simpa using hu)) (fun x hx => by simp at hx; rcases hx with rfl | rfl | rfl | rfl <;> rfl) (by decide) (by have := HN.out; unfold maxLen; omega) (by have := HN.out; omega) (by have := HZ.out; simp; omega) _ rfl ?_; intro g9 cap9 w7 hown1 hgr1 hat hlt9)
      go_ret
      refine ⟨_, _, _, rfl, Lib.hid ⟨?_, HBE.out _ _ _ hgr1⟩⟩
      exact ownV_VI (ownV_one ⟨dk, dn, dt, dr⟩ hown1) HLN.out (by have := HN.out; unfold maxLen; omega) HSZ.out

/-- What valuesOf answers at a valid object. -/
def VOfT (o : Ob) (W : World) (e : Ending) (w' : World) : Prop := ∃ A n c, e = .returned (.slice A n c) ∧ Hid (VI w' w'.heap.size A n (contents o) ∧ Below W.heap.size W w')

set_option maxHeartbeats 2000000 in
set_option maxRecDepth 100000 in
theorem valuesOf_2 (o : Ob) (l : Lay) (W : World) (k1 : o.kind = 2) (ho : OV W W.heap.size o l) (hn : o.keys.length ≤ 30) (hl : o.keys.length = o.vals.length) :
    Calls Tryz.prog 124 #[o.ag l] W (VOfT o W) := by
  have HK : Hid (kindV o l = .iface 210 (o.ag l)) := by show _ = _; unfold kindV; simp [k1]
  have HE : Hid (contents o = pairsOf o.keys o.vals ++ [o.d]) := by show _ = _; unfold contents; rw [if_pos k1]
  have HC := Lib.hid (one_new W 170 (o.vs l).toArray)
  have HO := Lib.hid ho
  have HN := Lib.hid hn
  have HL := Lib.hid hl
  clear k1 ho hn hl
  have a0 := as_tableObject_arrayObject o l
  have a1 := as_tableObject_tableObject o l
  have a2 := as_tableObject_recordObject o l
  show Calls Tryz.prog 124 #[.agg #[.int .i64 o.id, .int .i64 o.kind, .string o.name, .int .i64 o.low, .slice l.Ak l.nk l.ck, .slice l.Av l.nv l.cv, .int .i64 o.d.k, .int .i64 o.d.n, .string o.d.t, .int .i64 o.d.r]] W _
  go_enter Tryz.func124, Tryz.ntmps124
  go_wp2_with (first
    | (go_at_call 150; obtain ⟨g0, g1, g2⟩ := HC.out _ rfl; refine (ofKind_any o l _).mono ?_; rintro e w1 ⟨rfl, hb⟩; rw [HK.out]; have HB1 := Lib.hid (g1.trans (hb.mono g1.size)); clear g0 g1 g2 hb)
    | (go_at_call 151; have hba := below_alloc w1 (.cells #[.int .i64 o.id, .int .i64 o.kind, .string o.name, .int .i64 o.low, .slice l.Ak l.nk l.ck, .slice l.Av l.nv l.cv, .int .i64 o.d.k, .int .i64 o.d.n, .string o.d.t, .int .i64 o.d.r] 210); have hbx := HB1.out.trans (hba.mono HB1.out.size); refine Calls.mono (contents_any o l _ (HO.out.go hbx) HN.out HL.out) ?_; rintro e w2 ⟨A9, n9, c9, rfl, h⟩; have H2 := Lib.hid (show VI w2 w2.heap.size A9 n9 (contents o) ∧ Below W.heap.size W w2 from ⟨by rw [HE.out]; exact h.out.1, hbx.trans (h.out.2.mono hbx.size)⟩); clear hba hbx h))
  all_goals go_ret
  all_goals exact ⟨_, _, _, rfl, H2⟩

theorem valuesOf_any (o : Ob) (l : Lay) (W : World) (hv : ValidO o) (ho : OV W W.heap.size o l) :
    Calls Tryz.prog 124 #[o.ag l] W (VOfT o W) := by
  obtain ⟨_, h1 | h2 | h3⟩ := hv
  · exact (valuesOf_1 o l W h1.1).mono fun e w' h => ⟨_, _, _, h.1, Lib.hid ⟨by rw [contents, if_neg (by have := h1.1; omega)]; exact (ho.go h.2).2.1, h.2⟩⟩
  · exact valuesOf_2 o l W h2.1 ho h2.2.2.2.2.1 h2.2.2.2.2.2.1
  · exact (valuesOf_3 o l W h3.1).mono fun e w' h => ⟨_, _, _, h.1, Lib.hid ⟨by rw [contents, if_neg (by have := h3.1; omega)]; exact (ho.go h.2).2.1, h.2⟩⟩
end Go.Proofs.YtfcpdjfckeoniaaGreatDoor

namespace Go.Proofs.YtfcpdjfckeoniaaGreatDoor
open Go Go.RowKit Go.Sort Go.Maps

theorem id_le_last {os : List Ob} (h : Rising os) : ∀ {k j : Nat} {o : Ob}, j < k → os[j]? = some o → k ≤ os.length → o.id ≤ lastK os k
  | 0, j, o, hj, _, _ => absurd hj (by omega)
  | k + 1, j, o, hj, ho, hk => by
    have hl : os[k]? = some (os[k]'(by omega)) := List.getElem?_eq_getElem (by omega)
    rw [lastK_next hl]
    by_cases e : j = k
    · subst e
      rw [ho, Option.some.injEq] at hl
      rw [← hl]
      exact Int.le_refl _
    · exact Int.le_of_lt (rising_lt h (by omega) ho hl)
theorem validH_iff (nx : Int) (os : List Ob) : ValidH nx os ↔ (0 ≤ nx ∧ nx ≤ 1000000) ∧ os.length ≤ 40 ∧ UpTo nx os ∧ (∀ (j : Nat) (o : Ob), os[j]? = some o → RefsFit os o) := by
  constructor
  · rintro ⟨h1, h2, h3, h4, h5⟩
    refine ⟨h1, h2, ⟨fun j o ho => (h3 j o ho).1, h4, ?_⟩, h5⟩
    by_cases hz : os.length = 0
    · rw [hz]; exact h1.1
    · obtain ⟨k, hk⟩ : ∃ k, os.length = k + 1 := ⟨os.length - 1, by omega⟩
      have hl : os[k]? = some (os[k]'(by omega)) := List.getElem?_eq_getElem (by omega)
      rw [hk, lastK_next hl]
      exact (h3 k _ hl).2
  · rintro ⟨h1, h2, ⟨h3, h4, h5⟩, h6⟩
    exact ⟨h1, h2, fun j o ho => ⟨h3 j o ho, Int.le_trans (id_le_last h4 (List.getElem?_eq_some_iff.1 ho).1 ho (Nat.le_refl _)) h5⟩, h4, h6⟩
theorem id_wf {o : Ob} (h : ValidO o) : (Lit.int .i64 o.id).wf = true := by
  have := h.1
  unfold Lit.wf
  simp only [Bool.and_eq_true, decide_eq_true_eq]
  constructor
  · show (-9223372036854775808 : Int) ≤ _; omega
  · show _ ≤ (9223372036854775807 : Int); omega

/-- What indexHeap answers. -/
def IxH (nx : Int) (b off n : Nat) (os : List Ob) (W : World) (e : Ending) (w' : World) : Prop :=
  (ValidH nx os ∧ ∃ m, e = .returned (.tuple #[.map (some m), .bool true]) ∧ Hid (IdxM w' m b off os n ∧ m < w'.heap.size ∧ Below W.heap.size W w')) ∨
  (¬ ValidH nx os ∧ e = .returned (.tuple #[.map none, .bool false]) ∧ Hid (Below W.heap.size W w'))

theorem IxH.not {nx : Int} {b off n : Nat} {os : List Ob} {W w' : World} {e : Ending} (h : IxH nx b off n os W e w') (hV : tt (ValidH nx os) = false) : e = .returned (.tuple #[.map none, .bool false]) ∧ Below W.heap.size W w' := by
  rcases h with ⟨hv, _⟩ | ⟨_, rfl, h⟩
  · exact absurd hv (of_tt_false hV)
  · exact ⟨rfl, h.out⟩
theorem IxH.yes {nx : Int} {b off n : Nat} {os : List Ob} {W w' : World} {e : Ending} (h : IxH nx b off n os W e w') (hV : tt (ValidH nx os) = true) : ∃ m, e = .returned (.tuple #[.map (some m), .bool true]) ∧ IdxM w' m b off os n ∧ m < w'.heap.size ∧ Below W.heap.size W w' := by
  rcases h with ⟨_, m, rfl, h⟩ | ⟨hv, _⟩
  · exact ⟨m, rfl, h.out⟩
  · exact absurd (of_tt hV) hv

set_option maxHeartbeats 2000000 in
set_option maxRecDepth 100000 in
theorem indexHeap_any (nx : Int) (b off n c : Nat) (os : List Ob) (W : World) (hr : OI W W.heap.size (some ⟨b, off, none⟩) n os) (hT : Classes W) :
    Calls Tryz.prog 89 #[.agg #[.int .i64 nx, .slice (some ⟨b, off, none⟩) n c]] W (IxH nx b off n os W) := by
  have HR := Lib.hid hr
  have HT := Lib.hid hT
  have HN := Lib.hid hr.1
  have hnm := hr.2.1
  unfold maxLen at hnm
  have HC := Lib.hid (fun X (e : X = W.alloc (.cells #[.int .i64 nx, .slice (some ⟨b, off, none⟩) n c] 55)) => (show RW 55 X W.heap.size #[.int .i64 nx, .slice (some ⟨b, off, none⟩) n c] ∧ Below W.heap.size W X ∧ W.heap.size < X.heap.size from by rw [e]; exact ⟨RW.new _ _ _, below_alloc _ _, lt_alloc _ _⟩))
  clear hr hT
  by_cases c1 : n ≤ 40
  · have d1 : decide ((40 : Int) < (n : Int)) = false := by simp; omega
    have HN40 := Lib.hid c1
    by_cases c2 : 0 ≤ nx ∧ nx ≤ 1000000
    · have HW2 := Lib.hid (show decide (0 ≤ nx ∧ nx ≤ 1000000) = true by simp [c2])
      have C2 := Lib.hid c2
      clear c2
      by_cases c3 : UpTo nx os
      · have C3 := Lib.hid c3
        have HU := Lib.hid (tt_true c3)
        have HRI := Lib.hid c3.2.1
        have HVA := Lib.hid c3.1
        have HWF : Hid (∀ (j : Nat) (o : Ob), os[j]? = some o → (Lit.int .i64 o.id).wf = true) := fun j o ho => id_wf (HVA.out j o ho)
        clear c3
        go_enter Tryz.func89, Tryz.ntmps89
        go_wp2_with (first
          | (go_at_call 59; refine (within_i64 _ _ _ _).mono ?_; rintro e w1 ⟨rfl, rfl⟩; rw [HW2.out])
          | (go_at_call 122; obtain ⟨g0, g1, g2⟩ := HC.out _ rfl; refine Calls.mono (areObjectsUpTo_any nx _ n c os _ (HR.out.go g1) (classes_go HT.out g1)) ?_; rintro e w1 ⟨rfl, hb⟩; rw [HU.out]; have HR1 := Lib.hid (g0.below hb g2); have HB1 := Lib.hid (g1.trans (hb.mono g1.size)); have p0 : w1.cell? ⟨W.heap.size, 0, none⟩ = some (.int .i64 nx) := HR1.out.cell 0; have p1 : w1.cell? ⟨W.heap.size, 1, none⟩ = some (.slice (some ⟨b, off, none⟩) n c) := HR1.out.cell 1; clear g0 g1 g2 hb HC)
          | (go_at_call 123; refine Calls.mono (indexObjects_any nx b off n c os _ (HR.out.go HB1.out) HRI.out HWF.out HN40.out) ?_; rintro e w2 ⟨m, rfl, hi, hb⟩; have HI2 := Lib.hid hi.out; have HB2 := Lib.hid (HB1.out.trans (hb.mono HB1.out.size)); have q1 : w2.cell? ⟨W.heap.size, 1, none⟩ = some (.slice (some ⟨b, off, none⟩) n c) := (HR1.out.below hb HR1.out.lt).cell 1; clear hi hb p0 p1))
        go_loopw [30] (fun i wr => ∃ k : Nat, k ≤ n ∧ i = .int .i64 k ∧ Hid (Below W.heap.size W wr) ∧ Hid (IdxM wr m b off os n ∧ m < wr.heap.size) ∧ Hid (∀ (j : Nat) (o : Ob), j < k → os[j]? = some o → RefsFit os o)) (fun i _ => n - (intOf i).toNat)
        case atStart => exact ⟨0, Nat.zero_le _, rfl, HB2, HI2, fun j o hj => absurd hj (by omega)⟩
        case round =>
          obtain ⟨k, hk, rfl, HW, HI, HV⟩ := hrel
          by_cases hlt : k < n
          · obtain ⟨b', off', o, l, hA, hg, hx, ⟨q0, q1, q2, q3, q4, q5, q6, q7, q8, q9⟩, hov⟩ := (HR.out.go HW.out).at_ hlt
            simp only [Option.some.injEq, Addr.mk.injEq, and_true] at hA
            obtain ⟨rfl, rfl⟩ := hA
            have HX := Lib.hid hx
            have HOV := Lib.hid hov
            have HVO := Lib.hid (HVA.out k o hx)
            have b0 : (0 : Int) ≤ (k : Int) := by omega
            have b1 : (k : Int) < (n : Int) := by omega
            have HCO := Lib.hid (one_new wr 170 (o.vs l).toArray)
            obtain ⟨F, hF⟩ : ∃ v, tt (FitAll os (contents o)) = v := ⟨_, rfl⟩
            have HF := Lib.hid hF
            clear hx hov hg hF
            cases F
            all_goals
              go_wp2_with (first
                | (go_at_call 124; obtain ⟨g0, g1, g2⟩ := HCO.out _ rfl; refine Calls.mono (valuesOf_any o l _ HVO.out (HOV.out.go g1)) ?_; rintro e w3 ⟨A9, n9, c9, rfl, h⟩; have HVI := Lib.hid h.out.1; have HB3 := Lib.hid (g1.trans (h.out.2.mono g1.size)); clear g0 g1 g2 h q0 q1 q2 q3 q4 q5 q6 q7 q8 q9)
                | (go_at_call 90; have hbx := HW.out.trans (HB3.out.mono HW.out.size); refine Calls.mono (fitAll_any m b off n os A9 n9 c9 (contents o) _ (HI.out.1.below HB3.out HI.out.2) (Nat.lt_of_lt_of_le HI.out.2 HB3.out.size) (HR.out.go hbx) HRI.out HVI.out (classes_go HT.out hbx)) ?_; rintro e w4 ⟨rfl, hb⟩; rw [HF.out]; have HW4 := Lib.hid (hbx.trans (hb.mono hbx.size)); have HI4 : Hid (IdxM w4 m b off os n ∧ m < w4.heap.size) := ⟨(HI.out.1.below HB3.out HI.out.2).below hb (Nat.lt_of_lt_of_le HI.out.2 HB3.out.size), Nat.lt_of_lt_of_le HI.out.2 (Nat.le_trans HB3.out.size hb.size)⟩; clear hbx hb))
            · refine bodyPost_ret (v := .tuple #[.map none, .bool false]) (by simp [results, Tryz.results89, go_sem]) rfl (.inr ⟨fun h => ?_, rfl, HW4⟩)
              exact of_tt_false HF.out ((refsFit_iff HVO.out).1 (((validH_iff _ _).1 h).2.2.2 k o HX.out))
            · have HNX : Hid (∀ (j : Nat) (o : Ob), j < k + 1 → os[j]? = some o → RefsFit os o) := by
                intro j y hj hy
                by_cases e : j = k
                · rw [e, HX.out, Option.some.injEq] at hy
                  subst hy
                  exact (refsFit_iff HVO.out).2 (of_tt HF.out)
                · exact HV.out j y (by omega) hy
              go_roundw
              case rel => exact ⟨k + 1, by omega, by go_num, HW4, HI4, HNX⟩
              case measure => simp [intOf]; omega
          · have HALL : Hid (ValidH nx os) := (validH_iff _ _).2 ⟨C2.out, by rw [HN.out]; exact HN40.out, C3.out, fun j o ho => HV.out j o (by have := (List.getElem?_eq_some_iff.1 ho).1; have := HN.out; omega) ho⟩
            go_wp2_with fail
            exact bodyPost_ret (v := .tuple #[.map (some m), .bool true]) (by simp [results, Tryz.results89, go_sem]) rfl (.inl ⟨HALL.out, m, rfl, Lib.hid ⟨HI.out.1, HI.out.2, HW.out⟩⟩)
      · have HU := Lib.hid (tt_false c3)
        have HNV : Hid (¬ ValidH nx os) := fun h => c3 ((validH_iff _ _).1 h).2.2.1
        clear c3
        go_enter Tryz.func89, Tryz.ntmps89
        go_wp2_with (first
          | (go_at_call 59; refine (within_i64 _ _ _ _).mono ?_; rintro e w1 ⟨rfl, rfl⟩; rw [HW2.out])
          | (go_at_call 122; obtain ⟨g0, g1, g2⟩ := HC.out _ rfl; refine Calls.mono (areObjectsUpTo_any nx _ n c os _ (HR.out.go g1) (classes_go HT.out g1)) ?_; rintro e w1 ⟨rfl, hb⟩; rw [HU.out]; have HB1 := Lib.hid (g1.trans (hb.mono g1.size)); clear g0 g1 g2 hb HC))
        exact bodyPost_ret (v := .tuple #[.map none, .bool false]) (by simp [results, Tryz.results89, go_sem]) rfl (.inr ⟨HNV.out, rfl, HB1⟩)
    · have HW2 := Lib.hid (show decide (0 ≤ nx ∧ nx ≤ 1000000) = false by simp; omega)
      have HNV : Hid (¬ ValidH nx os) := fun h => c2 h.1
      clear c2
      go_enter Tryz.func89, Tryz.ntmps89
      go_wp2_with (go_at_call 59; refine (within_i64 _ _ _ _).mono ?_; rintro e w1 ⟨rfl, rfl⟩; rw [HW2.out])
      exact bodyPost_ret (v := .tuple #[.map none, .bool false]) (by simp [results, Tryz.results89, go_sem]) rfl (.inr ⟨HNV.out, rfl, Lib.hid (below_alloc _ _)⟩)
  · have d1 : decide ((40 : Int) < (n : Int)) = true := by simp; omega
    have HNV : Hid (¬ ValidH nx os) := fun h => c1 (by have := h.2.1; have := HN.out; omega)
    go_enter Tryz.func89, Tryz.ntmps89
    go_wp2_with fail
    exact bodyPost_ret (v := .tuple #[.map none, .bool false]) (by simp [results, Tryz.results89, go_sem]) rfl (.inr ⟨HNV.out, rfl, Lib.hid (below_alloc _ _)⟩)
end Go.Proofs.YtfcpdjfckeoniaaGreatDoor

namespace Go.Proofs.YtfcpdjfckeoniaaGreatDoor
open Go Go.RowKit

theorem hpt_of {T : TypeId} {w : World} {g : Nat} {nx : Int} {A : Option Addr} {n c : Nat} {os : List Ob} (h : RW T w g #[.int .i64 nx, .slice A n c]) (ho : OI w w.heap.size A n os) : HPt w g nx A n c os := ⟨h.cell 0, h.cell 1, ho, h.lt⟩
theorem tt_and (P Q : Prop) : tt (P ∧ Q) = (tt P && tt Q) := by
  rw [Bool.eq_iff_iff, Bool.and_eq_true, tt_iff, tt_iff, tt_iff]

set_option maxHeartbeats 1000000 in
set_option maxRecDepth 100000 in
theorem spec_FitsHeap_any (nx : Int) (A : Option Addr) (n c : Nat) (os : List Ob) (x : Vl) (W : World) (ha : OI W W.heap.size A n os) (hx : x.t.size ≤ maxLen) :
    Calls Tryz.prog 78 #[.agg #[.int .i64 nx, .slice A n c], x.ag] W fun e w' => e = .returned (.bool (tt (ValidH nx os ∧ Fits os x))) ∧ Below W.heap.size W w' := by
  rw [tt_and]
  have HA := Lib.hid ha
  have HX := Lib.hid hx
  obtain ⟨k, m, t, r⟩ := x
  have HC := Lib.hid (fun X T T' (e : X = (W.alloc (.cells #[.int .i64 nx, .slice A n c] T)).alloc (.cells #[.int .i64 k, .int .i64 m, .string t, .int .i64 r] T')) => (show RW T X W.heap.size #[.int .i64 nx, .slice A n c] ∧ RW T' X (W.heap.size + 1) #[.int .i64 k, .int .i64 m, .string t, .int .i64 r] ∧ Below W.heap.size W X ∧ X.heap.size = W.heap.size + 2 from by
    subst e
    refine ⟨(RW.new W _ T).alloc _, ?_, (below_alloc _ _).alloc (by simp) _, by simp⟩
    have := RW.new (W.alloc (.cells #[.int .i64 nx, .slice A n c] T)) #[.int .i64 k, .int .i64 m, .string t, .int .i64 r] T'
    simpa using this))
  clear ha hx
  obtain ⟨V, hV⟩ : ∃ V, tt (ValidH nx os) = V := ⟨_, rfl⟩
  have HV := Lib.hid hV
  obtain ⟨F, hF⟩ : ∃ F, tt (Fits os ⟨k, m, t, r⟩) = F := ⟨_, rfl⟩
  have HF := Lib.hid hF
  rw [hV, hF]
  clear hV hF
  show Calls Tryz.prog 78 #[.agg #[.int .i64 nx, .slice A n c], .agg #[.int .i64 k, .int .i64 m, .string t, .int .i64 r]] W _
  cases V
  · go_enter Tryz.func78, Tryz.ntmps78
    go_wp2_with (go_at_call 74; obtain ⟨g0, g1, g2, g3⟩ := HC.out _ _ _ rfl; refine Calls.mono (l07Ok_any W.heap.size nx A n c os _ (hpt_of g0 (HA.out.go g2))) ?_; rintro e w1 ⟨rfl, hb⟩; rw [HV.out]; have HB1 := Lib.hid (g2.trans (hb.mono g2.size)); clear g0 g1 g2 g3 hb)
    all_goals go_ret
    all_goals exact ⟨rfl, HB1.out⟩
  · have HRI := Lib.hid (of_tt HV.out).2.2.2.1
    cases F
    all_goals
      go_enter Tryz.func78, Tryz.ntmps78
      go_wp2_with (first
        | (go_at_call 74; obtain ⟨g0, g1, g2, g3⟩ := HC.out _ _ _ rfl; have hp := hpt_of g0 (HA.out.go g2); refine Calls.mono (l07Ok_any W.heap.size nx A n c os _ hp) ?_; rintro e w1 ⟨rfl, hb⟩; rw [HV.out]; have HB1 := Lib.hid (g2.trans (hb.mono g2.size)); have HP1 := Lib.hid (hp.go hb); have hr1 := g1.below hb (by omega); have q0 : w1.cell? ⟨W.heap.size + 1, 0, none⟩ = some (.int .i64 k) := hr1.cell 0; have q1 : w1.cell? ⟨W.heap.size + 1, 1, none⟩ = some (.int .i64 m) := hr1.cell 1; have q2 : w1.cell? ⟨W.heap.size + 1, 2, none⟩ = some (.string t) := hr1.cell 2; have q3 : w1.cell? ⟨W.heap.size + 1, 3, none⟩ = some (.int .i64 r) := hr1.cell 3; clear g0 g1 g2 g3 hb hp hr1 HC)
        | (go_at_call 117; refine Calls.mono (l07Fits_any W.heap.size nx A n c os ⟨k, m, t, r⟩ _ HP1.out HRI.out HX.out) ?_; rintro e w2 ⟨rfl, hb⟩; rw [HF.out]; have HB2 := Lib.hid (HB1.out.trans (hb.mono HB1.out.size)); clear hb q0 q1 q2 q3))
      all_goals go_ret
      all_goals exact ⟨rfl, HB2.out⟩
end Go.Proofs.YtfcpdjfckeoniaaGreatDoor

namespace Go.Proofs.YtfcpdjfckeoniaaGreatDoor
open Go Go.RowKit

set_option maxHeartbeats 1000000 in
set_option maxRecDepth 100000 in
theorem impl_ValidRoots_any (nx : Int) (b off n c : Nat) (os : List Ob) (A' : Option Addr) (n' c' : Nat) (xs : List Vl) (W : World) (ha : OI W W.heap.size (some ⟨b, off, none⟩) n os) (hx : VI W W.heap.size A' n' xs) (hT : Classes W) :
    Calls Tryz.prog 45 #[.agg #[.int .i64 nx, .slice (some ⟨b, off, none⟩) n c], .slice A' n' c'] W fun e w' => e = .returned (.bool (tt (ValidH nx os ∧ FitAll os xs))) ∧ Below W.heap.size W w' := by
  rw [tt_and]
  have HA := Lib.hid ha
  have HX := Lib.hid hx
  have HT := Lib.hid hT
  have HC := Lib.hid (one_new W 55 #[.int .i64 nx, .slice (some ⟨b, off, none⟩) n c])
  clear ha hx hT
  obtain ⟨V, hV⟩ : ∃ V, tt (ValidH nx os) = V := ⟨_, rfl⟩
  have HV := Lib.hid hV
  obtain ⟨F, hF⟩ : ∃ F, tt (FitAll os xs) = F := ⟨_, rfl⟩
  have HF := Lib.hid hF
  rw [hV, hF]
  clear hV hF
  cases V
  · go_enter Tryz.func45, Tryz.ntmps45
    go_wp2_with (go_at_call 89; obtain ⟨g0, g1, g2⟩ := HC.out _ rfl; refine Calls.mono (indexHeap_any nx b off n c os _ (HA.out.go g1) (classes_go HT.out g1)) ?_; intro e w1 h; obtain ⟨rfl, hb⟩ := h.not HV.out; have HB1 := Lib.hid (g1.trans (hb.mono g1.size)); clear g0 g1 g2 h hb)
    all_goals go_ret
    all_goals exact ⟨rfl, HB1.out⟩
  · have HRI := Lib.hid (of_tt HV.out).2.2.2.1
    cases F
    all_goals
      go_enter Tryz.func45, Tryz.ntmps45
      go_wp2_with (first
        | (go_at_call 89; obtain ⟨g0, g1, g2⟩ := HC.out _ rfl; refine Calls.mono (indexHeap_any nx b off n c os _ (HA.out.go g1) (classes_go HT.out g1)) ?_; intro e w1 h; obtain ⟨mm, rfl, hi, hm, hb⟩ := h.yes HV.out; have HB1 := Lib.hid (g1.trans (hb.mono g1.size)); have HI1 := Lib.hid hi; have HM1 := Lib.hid hm; clear g0 g1 g2 h hb hi hm HC)
        | (go_at_call 90; refine Calls.mono (fitAll_any mm b off n os A' n' c' xs _ HI1.out HM1.out (HA.out.go HB1.out) HRI.out (HX.out.go HB1.out) (classes_go HT.out HB1.out)) ?_; rintro e w2 ⟨rfl, hb⟩; rw [HF.out]; have HB2 := Lib.hid (HB1.out.trans (hb.mono HB1.out.size)); clear hb))
      all_goals go_ret
      all_goals exact ⟨rfl, HB2.out⟩
end Go.Proofs.YtfcpdjfckeoniaaGreatDoor

namespace Go.Proofs.YtfcpdjfckeoniaaGreatDoor
open Go Go.RowKit

/-- The first k elements are what a valid list has. -/
def UpOk {α : Type} (ok : α → Bool) (nm : α → ByteArray) (xs : List α) (k : Nat) : Prop := ∀ (i : Nat) (x : α), i < k → xs[i]? = some x → ok x = true ∧ ∀ y, 0 < i → xs[i - 1]? = some y → Op.bytesLess (nm y).toList (nm x).toList = true
def ListOk {α : Type} (ok : α → Bool) (nm : α → ByteArray) (lim : Nat) (xs : List α) : Prop := xs.length ≤ lim ∧ UpOk ok nm xs xs.length
theorem UpOk.zero {α : Type} {ok : α → Bool} {nm : α → ByteArray} {xs : List α} : UpOk ok nm xs 0 := fun i x h => absurd h (by omega)
theorem UpOk.first {α : Type} {ok : α → Bool} {nm : α → ByteArray} {xs : List α} {x : α} (hx : xs[0]? = some x) (h : ok x = true) : UpOk ok nm xs (0 + 1) := by
  intro i u hi hu
  obtain rfl : i = 0 := by omega
  rw [hx, Option.some.injEq] at hu
  subst hu
  exact ⟨h, fun y h0 => absurd h0 (by omega)⟩
theorem UpOk.next {α : Type} {ok : α → Bool} {nm : α → ByteArray} {xs : List α} {k : Nat} {x y : α} (h : UpOk ok nm xs k) (hx : xs[k]? = some x) (hok : ok x = true) (hy : xs[k - 1]? = some y) (hl : Op.bytesLess (nm y).toList (nm x).toList = true) : UpOk ok nm xs (k + 1) := by
  intro i u hi hu
  by_cases e : i = k
  · subst e
    rw [hx, Option.some.injEq] at hu
    subst hu
    refine ⟨hok, fun z h0 hz => ?_⟩
    rw [hy, Option.some.injEq] at hz
    subst hz
    exact hl
  · exact h i u (by omega) hu
theorem not_ok {α : Type} {ok : α → Bool} {nm : α → ByteArray} {lim : Nat} {xs : List α} {k : Nat} {x : α} (hx : xs[k]? = some x) (hok : ok x = false) : ¬ ListOk ok nm lim xs := fun h => by
  have := (h.2 k x (List.getElem?_eq_some_iff.1 hx).1 hx).1
  rw [hok] at this
  cases this
theorem not_up {α : Type} {ok : α → Bool} {nm : α → ByteArray} {lim : Nat} {xs : List α} {k : Nat} {x y : α} (hk : 0 < k) (hx : xs[k]? = some x) (hy : xs[k - 1]? = some y) (hl : Op.bytesLess (nm y).toList (nm x).toList = false) : ¬ ListOk ok nm lim xs := fun h => by
  have := (h.2 k x (List.getElem?_eq_some_iff.1 hx).1 hx).2 y hk hy
  rw [hl] at this
  cases this
end Go.Proofs.YtfcpdjfckeoniaaGreatDoor

namespace Go.Proofs.YtfcpdjfckeoniaaGreatDoor
open Go Go.RowKit

theorem one_new1 (W : World) (T : TypeId) (c : Array Value) (X : World) (e : X = W.alloc (.cells c T)) : RW T X W.heap.size c ∧ Below W.heap.size W X ∧ W.heap.size < X.heap.size := by
  subst e
  exact ⟨RW.new _ _ _, below_alloc _ _, lt_alloc _ _⟩
/-- At most m lines of at most k bytes. -/
def linesB (xs : List St) (m k : Nat) : Bool := decide (xs.length ≤ m) && xs.all fun s => decide (s.size ≤ k)
theorem lines_long {xs : List St} {m k : Nat} (h : m < xs.length) : linesB xs m k = false := by
  unfold linesB
  rw [show decide (xs.length ≤ m) = false by simp; omega]
  rfl
theorem lines_all {xs : List St} {m k : Nat} (h : xs.length ≤ m) (ha : ∀ (j : Nat) (s : St), j < xs.length → xs[j]? = some s → s.size ≤ k) : linesB xs m k = true := by
  unfold linesB
  rw [show decide (xs.length ≤ m) = true by simp; omega, Bool.true_and, List.all_eq_true]
  intro s hs
  obtain ⟨j, hj⟩ := List.getElem?_of_mem hs
  exact decide_eq_true (ha j s (List.getElem?_eq_some_iff.1 hj).1 hj)
theorem lines_not {xs : List St} {m k j : Nat} {s : St} (hx : xs[j]? = some s) (h : k < s.size) : linesB xs m k = false := by
  unfold linesB
  rw [show (xs.all fun s => decide (s.size ≤ k)) = false from ?_, Bool.and_false]
  rw [Bool.eq_false_iff]
  intro ha
  have := of_decide_eq_true (List.all_eq_true.1 ha s (List.mem_of_getElem? hx))
  omega

set_option maxHeartbeats 1000000 in
set_option maxRecDepth 100000 in
theorem l21Lines_any (A : Option Addr) (n c m k : Nat) (xs : List St) (W : World) (hr : StI W W.heap.size A n xs) (hm : m ≤ 100000) (hk : k ≤ 100000) :
    Calls Tryz.prog 55 #[.slice A n c, .int .i64 m, .int .i64 k] W fun e w' => e = .returned (.bool (linesB xs m k)) ∧ W = w' := by
  have HR := Lib.hid hr
  have hl := hr.1
  have hnm := hr.2.1
  unfold maxLen at hnm
  clear hr
  by_cases hl1 : n ≤ m
  case neg =>
    rw [lines_long (by omega)]
    have d0 : decide ((n : Int) > (m : Int)) = true := by simp; omega
    have d1 : (m : Int) < (n : Int) := by omega
    go_enter Tryz.func55, Tryz.ntmps55
    go_wp2_with fail
    go_ret
    exact ⟨rfl, rfl⟩
  have HLL := Lib.hid hl
  have HLM := Lib.hid hl1
  obtain ⟨P, hP⟩ : ∃ P, linesB xs m k = P := ⟨_, rfl⟩
  have HP := Lib.hid hP
  rw [hP]
  clear hP hl
  have d1 : ¬ (m : Int) < (n : Int) := by omega
  clear hl1
  go_enter Tryz.func55, Tryz.ntmps55
  go_wp2_with fail
  go_loopw [7] (fun i wr => ∃ j : Nat, j ≤ n ∧ i = .int .i64 j ∧ Hid (wr = W) ∧ Hid (∀ (i : Nat) (y : St), i < j → xs[i]? = some y → y.size ≤ k)) (fun i _ => n - (intOf i).toNat)
  case atStart => exact ⟨0, Nat.zero_le _, rfl, rfl, Lib.hid (fun i y hi => absurd hi (by omega))⟩
  case round =>
    obtain ⟨j, hj, rfl, HW, HV⟩ := hrel
    by_cases hlt : j < n
    · have b0 : (0 : Int) ≤ (j : Int) := by omega
      have b1 : (j : Int) < (n : Int) := by omega
      obtain ⟨b, off, s, rfl, hg, hx, p0, hsz⟩ := HR.out.at_ hlt
      rw [← HW.out] at p0
      have HX := Lib.hid hx
      unfold maxLen at hsz
      clear hx hg
      by_cases hz : s.size ≤ k
      · have HZ := Lib.hid hz
        have e1 : ¬ (k : Int) < (s.size : Int) := by omega
        clear hz
        go_wp2_with fail
        go_roundw
        case rel =>
          refine ⟨j + 1, by omega, by go_num, HW, Lib.hid (fun i y hi hy => ?_)⟩
          by_cases e : i = j
          · subst e
            rw [HX.out, Option.some.injEq] at hy
            subst hy
            exact HZ.out
          · exact HV.out i y (by omega) hy
        case measure => simp [intOf]; omega
      · have HF : Hid (P = false) := by show _ = _; rw [← HP.out]; exact lines_not HX.out (by omega)
        have e1 : (k : Int) < (s.size : Int) := by omega
        clear hz
        go_wp2_with fail
        go_ret
        exact ⟨by rw [HF.out]; rfl, HW.out.symm⟩
    · have hjn : j = n := by omega
      have HT : Hid (P = true) := by
        show _ = _
        rw [← HP.out]
        exact lines_all (by rw [HLL.out]; exact HLM.out) fun i y hi hy => HV.out i y (by have := HLL.out; omega) hy
      clear hjn
      go_wp2_with fail
      go_ret
      exact ⟨by rw [HT.out]; rfl, HW.out.symm⟩

set_option maxHeartbeats 1000000 in
theorem tooLong_any (s : ByteArray) (g k : Nat) (W : World) (hg : W.cell? ⟨g, 0, none⟩ = some (.int .i64 k)) (hs : s.size ≤ maxLen) (hk : k ≤ 100000) :
    Calls Tryz.prog 138 #[.string s, .pointer (some ⟨g, 0, none⟩)] W fun e w' => e = .returned (.bool (decide (k < s.size))) ∧ W = w' := by
  unfold maxLen at hs
  by_cases h : k < s.size
  · rw [show decide (k < s.size) = true from decide_eq_true h]
    have h1 : (k : Int) < (s.size : Int) := by omega
    clear h
    go_enter Tryz.func138, Tryz.ntmps138
    go_wp2_with fail
    go_ret
    exact ⟨rfl, rfl⟩
  · rw [show decide (k < s.size) = false from decide_eq_false h]
    have h1 : ¬ (k : Int) < (s.size : Int) := by omega
    clear h
    go_enter Tryz.func138, Tryz.ntmps138
    go_wp2_with fail
    go_ret
    exact ⟨rfl, rfl⟩

set_option maxHeartbeats 1000000 in
set_option maxRecDepth 100000 in
/-- The first line that is too long. -/
theorem firstLong_any (A : Option Addr) (n c g k : Nat) (xs : List St) (W : World) (hr : StI W W.heap.size A n xs) (hg : W.cell? ⟨g, 0, none⟩ = some (.int .i64 k)) (hk : k ≤ 100000) :
    Calls Tryz.prog 137 #[.slice A n c, .func (.func 138) #[] #[.pointer (some ⟨g, 0, none⟩)]] W fun e w' => ∃ i : Int, e = .returned (.int .i64 i) ∧ Hid (((0 ≤ i ∧ ∃ (j : Nat) (s : St), xs[j]? = some s ∧ k < s.size) ∨ (i = -1 ∧ ∀ (j : Nat) (s : St), j < n → xs[j]? = some s → s.size ≤ k)) ∧ W = w') := by
  have HR := Lib.hid hr
  have hl := hr.1
  have hnm := hr.2.1
  unfold maxLen at hnm
  have HC := Lib.hid hg
  clear hr hg hl
  go_enter Tryz.func137, Tryz.ntmps137
  go_wp2_with fail
  go_loopw [9] (fun i wr => ∃ j : Nat, j ≤ n ∧ i = .int .i64 j ∧ Hid (wr = W) ∧ Hid (∀ (i : Nat) (y : St), i < j → xs[i]? = some y → y.size ≤ k)) (fun i _ => n - (intOf i).toNat)
  case atStart => exact ⟨0, Nat.zero_le _, rfl, rfl, Lib.hid (fun i y hi => absurd hi (by omega))⟩
  case round =>
    obtain ⟨j, hj, rfl, HW, HV⟩ := hrel
    by_cases hlt : j < n
    · have b0 : (0 : Int) ≤ (j : Int) := by omega
      have b1 : (j : Int) < (n : Int) := by omega
      obtain ⟨b, off, s, rfl, hg, hx, p0, hsz⟩ := HR.out.at_ hlt
      rw [← HW.out] at p0
      have HX := Lib.hid hx
      have HQ := Lib.hid (tooLong_any s g k wr (by rw [HW.out]; exact HC.out) hsz hk)
      obtain ⟨z, hz⟩ : ∃ z, decide (k < s.size) = z := ⟨_, rfl⟩
      rw [hz] at HQ
      have HZ := Lib.hid hz
      clear hx hg hz hsz
      cases z
      · go_wp2_with (go_at_call 138; refine Calls.mono HQ.out ?_; rintro e w2 ⟨rfl, rfl⟩)
        go_roundw
        case rel =>
          refine ⟨j + 1, by omega, by go_num, HW, Lib.hid (fun i y hi hy => ?_)⟩
          by_cases e : i = j
          · subst e
            rw [HX.out, Option.some.injEq] at hy
            subst hy
            have := of_decide_eq_false HZ.out
            omega
          · exact HV.out i y (by omega) hy
        case measure => simp [intOf]; omega
      · go_wp2_with (go_at_call 138; refine Calls.mono HQ.out ?_; rintro e w2 ⟨rfl, rfl⟩)
        go_ret
        exact ⟨_, rfl, Lib.hid ⟨.inl ⟨b0, j, s, HX.out, of_decide_eq_true HZ.out⟩, HW.out.symm⟩⟩
    · have hjn : j = n := by omega
      have HAA : Hid (∀ (i : Nat) (s : St), i < n → xs[i]? = some s → s.size ≤ k) := fun i s hi hs => HV.out i s (by omega) hs
      clear hjn
      go_wp2_with fail
      go_ret
      exact ⟨_, rfl, Lib.hid ⟨.inr ⟨rfl, HAA.out⟩, HW.out.symm⟩⟩

set_option maxHeartbeats 1000000 in
set_option maxRecDepth 100000 in
theorem areLines_any (A : Option Addr) (n c m k : Nat) (xs : List St) (W : World) (hr : StI W W.heap.size A n xs) (hm : m ≤ 100000) (hk : k ≤ 100000) :
    Calls Tryz.prog 108 #[.slice A n c, .int .i64 m, .int .i64 k] W fun e w' => e = .returned (.bool (linesB xs m k)) ∧ Below W.heap.size W w' := by
  have hl := hr.1
  have hnm := hr.2.1
  unfold maxLen at hnm
  by_cases hl1 : n ≤ m
  case neg =>
    rw [lines_long (by omega)]
    have d1 : ¬ (n : Int) ≤ (m : Int) := by omega
    clear hr hl hl1
    go_enter Tryz.func108, Tryz.ntmps108
    go_wp2_with fail
    go_ret
    exact ⟨rfl, below_alloc _ _⟩
  have d1 : (n : Int) ≤ (m : Int) := by omega
  have HL := Lib.hid hl
  have HLM := Lib.hid hl1
  have HQ := Lib.hid (fun X (e : X = W.alloc (.cells #[.int .i64 k] 3)) => (show Calls Tryz.prog 137 #[.slice A n c, .func (.func 138) #[] #[.pointer (some ⟨W.heap.size, 0, none⟩)]] X _ from firstLong_any A n c W.heap.size k xs X (by rw [e]; exact hr.go (below_alloc _ _)) ((one_new1 W 3 #[.int .i64 k] X e).1.cell 0) hk))
  clear hr hl hl1
  go_enter Tryz.func108, Tryz.ntmps108
  go_wp2_with (go_at_call 137; refine Calls.mono (HQ.out _ rfl) ?_; clear HQ; rintro e w2 ⟨i, rfl, h⟩; obtain ⟨hi, rfl⟩ := h.out; clear h; have HI := Lib.hid hi; clear hi)
  rcases HI.out with ⟨h0, j, s, hx, hs⟩ | ⟨rfl, ha⟩
  · rw [lines_not hx hs]
    have e1 : decide (i < 0) = false := by simp; omega
    have e2 : ¬ i < 0 := by omega
    clear HI hx hs
    go_wp2_with fail
    go_ret
    exact ⟨rfl, below_alloc _ _⟩
  · rw [lines_all (by have := HL.out; have := HLM.out; omega) fun j s hj hx => ha j s (by have := HL.out; omega) hx]
    clear HI ha
    go_wp2_with fail
    go_ret
    exact ⟨rfl, below_alloc _ _⟩
end Go.Proofs.YtfcpdjfckeoniaaGreatDoor

namespace Go.Proofs.YtfcpdjfckeoniaaGreatDoor
open Go Go.RowKit

/-- Whether a file is valid. -/
def fileB (x : Fl) : Bool := isNameB x.name_ && (linesB x.lines_ 40 200 && (decide (0 ≤ x.mode_ ∧ x.mode_ ≤ 3) && (decide (0 ≤ x.at_ ∧ x.at_ ≤ (x.lines_.length : Int)) && ((x.mode_ == 1) || (x.at_ == 0)))))

set_option maxHeartbeats 4000000 in
set_option maxRecDepth 100000 in
theorem l21File_any (x : Fl) (l : FlLay) (W : World) (hx : FlV W W.heap.size x l) :
    Calls Tryz.prog 56 #[x.ag l] W fun e w' => e = .returned (.bool (fileB x)) ∧ Below W.heap.size W w' := by
  unfold fileB
  obtain ⟨x0, x1, x2, x3⟩ := x
  obtain ⟨A1, n1, c1, h1⟩ := l
  obtain ⟨k1, k0⟩ := hx
  dsimp only at k0 k1 ⊢
  have HK1 := Lib.hid k1
  have HS := Lib.hid k0
  have HL := Lib.hid k1.1
  have hn1 := k1.2.1
  unfold maxLen at hn1
  rw [k1.1]
  obtain ⟨a, ha⟩ : ∃ z, isNameB x0 = z := ⟨_, rfl⟩
  obtain ⟨b, hb⟩ : ∃ z, linesB x1 40 200 = z := ⟨_, rfl⟩
  obtain ⟨c, hc⟩ : ∃ z, decide (0 ≤ x2 ∧ x2 ≤ 3) = z := ⟨_, rfl⟩
  have HA := Lib.hid ha
  have HB := Lib.hid hb
  have HC := Lib.hid hc
  obtain ⟨d, hd⟩ : ∃ z, decide (0 ≤ x3 ∧ x3 ≤ (n1 : Int)) = z := ⟨_, rfl⟩
  obtain ⟨u, hu⟩ : ∃ z, (x2 == 1) = z := ⟨_, rfl⟩
  obtain ⟨v, hv⟩ : ∃ z, (x3 == 0) = z := ⟨_, rfl⟩
  have HD := Lib.hid hd
  rw [ha, hb, hc, hd, hu, hv]
  clear k0 k1 ha hb hc hd
  have HO := Lib.hid (fun X (e : X = W.alloc (.cells #[.string x0, .slice A1 n1 c1, .int .i64 x2, .int .i64 x3] 100)) => (one_new1 W 100 #[.string x0, .slice A1 n1 c1, .int .i64 x2, .int .i64 x3] X e).2.1)
  show Calls Tryz.prog 56 #[.agg #[.string x0, .slice A1 n1 c1, .int .i64 x2, .int .i64 x3]] W _
  cases a
  · skip
    have tk1 : True := trivial
    go_enter Tryz.func56, Tryz.ntmps56
    go_wp2_with (first | (go_at_call 51; refine Calls.mono (spec_IsName_any x0 _ HS.out) ?_; rintro e w1 ⟨rfl, rfl⟩; rw [HA.out]))
    go_ret
    exact ⟨rfl, HO.out _ rfl⟩
  cases b
  · skip
    have tk1 : True := trivial
    go_enter Tryz.func56, Tryz.ntmps56
    go_wp2_with (first | (go_at_call 51; refine Calls.mono (spec_IsName_any x0 _ HS.out) ?_; rintro e w1 ⟨rfl, rfl⟩; rw [HA.out]) | (go_at_call 55; refine Calls.mono (l21Lines_any A1 n1 c1 40 200 x1 _ (HK1.out.go (HO.out _ rfl)) (by decide) (by decide)) ?_; rintro e w1 ⟨rfl, rfl⟩; rw [HB.out]))
    go_ret
    exact ⟨rfl, HO.out _ rfl⟩
  cases c
  · skip
    have tk1 : True := trivial
    go_enter Tryz.func56, Tryz.ntmps56
    go_wp2_with (first | (go_at_call 51; refine Calls.mono (spec_IsName_any x0 _ HS.out) ?_; rintro e w1 ⟨rfl, rfl⟩; rw [HA.out]) | (go_at_call 55; refine Calls.mono (l21Lines_any A1 n1 c1 40 200 x1 _ (HK1.out.go (HO.out _ rfl)) (by decide) (by decide)) ?_; rintro e w1 ⟨rfl, rfl⟩; rw [HB.out]) | (go_at_call 50; have tk := tk1; refine Calls.mono (l00In_any x2 0 3 _) ?_; rintro e w1 ⟨rfl, rfl⟩; rw [HC.out]; clear tk tk1))
    go_ret
    exact ⟨rfl, HO.out _ rfl⟩
  cases d <;> cases u <;> cases v
  all_goals
    have tk1 : True := trivial
    go_enter Tryz.func56, Tryz.ntmps56
    go_wp2_with (first | (go_at_call 51; refine Calls.mono (spec_IsName_any x0 _ HS.out) ?_; rintro e w1 ⟨rfl, rfl⟩; rw [HA.out]) | (go_at_call 55; refine Calls.mono (l21Lines_any A1 n1 c1 40 200 x1 _ (HK1.out.go (HO.out _ rfl)) (by decide) (by decide)) ?_; rintro e w1 ⟨rfl, rfl⟩; rw [HB.out]) | (go_at_call 50; have tk := tk1; refine Calls.mono (l00In_any x2 0 3 _) ?_; rintro e w1 ⟨rfl, rfl⟩; rw [HC.out]; clear tk tk1) | (go_at_call 50; refine Calls.mono (l00In_any x3 0 (n1 : Int) _) ?_; rintro e w1 ⟨rfl, rfl⟩; rw [HD.out]))
    go_ret
    exact ⟨rfl, HO.out _ rfl⟩

theorem at_mode (m a : Int) (n : Nat) (p : Int) (h : p = if m = 1 then (n : Int) else 0) : decide (0 ≤ a ∧ a ≤ p) = (decide (0 ≤ a ∧ a ≤ (n : Int)) && ((m == 1) || (a == 0))) := by
  subst h
  rw [Bool.eq_iff_iff]
  simp only [Bool.and_eq_true, Bool.or_eq_true, decide_eq_true_eq, beq_iff_eq]
  split <;> omega

set_option maxHeartbeats 4000000 in
set_option maxRecDepth 100000 in
theorem isFile_any (x : Fl) (l : FlLay) (W : World) (hx : FlV W W.heap.size x l) (hT : Classes W) :
    Calls Tryz.prog 109 #[x.ag l] W fun e w' => e = .returned (.bool (fileB x)) ∧ Below W.heap.size W w' := by
  unfold fileB
  obtain ⟨x0, x1, x2, x3⟩ := x
  obtain ⟨A1, n1, c1, h1⟩ := l
  obtain ⟨k1, k0⟩ := hx
  dsimp only at k0 k1 ⊢
  have HK1 := Lib.hid k1
  have HS := Lib.hid k0
  have hn1 := k1.2.1
  unfold maxLen at hn1
  have HT := Lib.hid hT
  rw [k1.1]
  obtain ⟨a, ha⟩ : ∃ z, isNameB x0 = z := ⟨_, rfl⟩
  obtain ⟨b, hb⟩ : ∃ z, linesB x1 40 200 = z := ⟨_, rfl⟩
  obtain ⟨c, hc⟩ : ∃ z, decide (0 ≤ x2 ∧ x2 ≤ 3) = z := ⟨_, rfl⟩
  have HA := Lib.hid ha
  have HB := Lib.hid hb
  have HC := Lib.hid hc
  obtain ⟨u, hu⟩ : ∃ z, (x2 == 1) = z := ⟨_, rfl⟩
  obtain ⟨p, hp⟩ : ∃ p : Int, p = if x2 = 1 then (n1 : Int) else 0 := ⟨_, rfl⟩
  have hq := at_mode x2 x3 n1 p hp
  rw [ha, hb, hc, ← hq]
  clear hq
  obtain ⟨d, hd⟩ : ∃ z, decide (0 ≤ x3 ∧ x3 ≤ p) = z := ⟨_, rfl⟩
  have HD := Lib.hid hd
  rw [hd]
  clear k0 k1 ha hb hc hd hT
  have HO := Lib.hid (fun X (e : X = W.alloc (.cells #[.string x0, .slice A1 n1 c1, .int .i64 x2, .int .i64 x3] 100)) => one_new1 W 100 #[.string x0, .slice A1 n1 c1, .int .i64 x2, .int .i64 x3] X e)
  show Calls Tryz.prog 109 #[.agg #[.string x0, .slice A1 n1 c1, .int .i64 x2, .int .i64 x3]] W _

  cases u
  · have hpp : p = 0 := by rw [hp]; rw [if_neg (by simpa using hu)]
    rw [hpp] at HD
    clear hpp
    clear hp
    cases a
    · have tk1 : True := trivial
      go_enter Tryz.func109, Tryz.ntmps109
      go_wp2_with (first | (go_at_call 60; obtain ⟨g0, g1, g2⟩ := HO.out _ rfl; refine Calls.mono (impl_IsName_any x0 _ HS.out (classes_go HT.out g1)) ?_; rintro e w1 ⟨rfl, hb⟩; rw [HA.out]; have HW1 : Hid (RW 100 w1 W.heap.size #[.string x0, .slice A1 n1 c1, .int .i64 x2, .int .i64 x3] ∧ Below W.heap.size W w1) := ⟨g0.below hb g0.lt, g1.trans (hb.mono g1.size)⟩; have y11 : w1.cell? ⟨W.heap.size, 1, none⟩ = some (.slice A1 n1 c1) := HW1.out.1.cell 1; clear g0 g1 g2 hb))
      go_ret
      exact ⟨rfl, HW1.out.2⟩
    cases b
    · have tk1 : True := trivial
      go_enter Tryz.func109, Tryz.ntmps109
      go_wp2_with (first | (go_at_call 60; obtain ⟨g0, g1, g2⟩ := HO.out _ rfl; refine Calls.mono (impl_IsName_any x0 _ HS.out (classes_go HT.out g1)) ?_; rintro e w1 ⟨rfl, hb⟩; rw [HA.out]; have HW1 : Hid (RW 100 w1 W.heap.size #[.string x0, .slice A1 n1 c1, .int .i64 x2, .int .i64 x3] ∧ Below W.heap.size W w1) := ⟨g0.below hb g0.lt, g1.trans (hb.mono g1.size)⟩; have y11 : w1.cell? ⟨W.heap.size, 1, none⟩ = some (.slice A1 n1 c1) := HW1.out.1.cell 1; clear g0 g1 g2 hb) | (go_at_call 108; refine Calls.mono (areLines_any A1 n1 c1 40 200 x1 _ (HK1.out.go HW1.out.2) (by decide) (by decide)) ?_; rintro e w2 ⟨rfl, hb⟩; rw [HB.out]; have HW2 : Hid (RW 100 w2 W.heap.size #[.string x0, .slice A1 n1 c1, .int .i64 x2, .int .i64 x3] ∧ Below W.heap.size W w2) := ⟨HW1.out.1.below hb HW1.out.1.lt, HW1.out.2.trans (hb.mono HW1.out.2.size)⟩; have y22 : w2.cell? ⟨W.heap.size, 2, none⟩ = some (.int .i64 x2) := HW2.out.1.cell 2; have y23 : w2.cell? ⟨W.heap.size, 3, none⟩ = some (.int .i64 x3) := HW2.out.1.cell 3; clear hb))
      go_ret
      exact ⟨rfl, HW2.out.2⟩
    cases c
    · have tk1 : True := trivial
      go_enter Tryz.func109, Tryz.ntmps109
      go_wp2_with (first | (go_at_call 60; obtain ⟨g0, g1, g2⟩ := HO.out _ rfl; refine Calls.mono (impl_IsName_any x0 _ HS.out (classes_go HT.out g1)) ?_; rintro e w1 ⟨rfl, hb⟩; rw [HA.out]; have HW1 : Hid (RW 100 w1 W.heap.size #[.string x0, .slice A1 n1 c1, .int .i64 x2, .int .i64 x3] ∧ Below W.heap.size W w1) := ⟨g0.below hb g0.lt, g1.trans (hb.mono g1.size)⟩; have y11 : w1.cell? ⟨W.heap.size, 1, none⟩ = some (.slice A1 n1 c1) := HW1.out.1.cell 1; clear g0 g1 g2 hb) | (go_at_call 108; refine Calls.mono (areLines_any A1 n1 c1 40 200 x1 _ (HK1.out.go HW1.out.2) (by decide) (by decide)) ?_; rintro e w2 ⟨rfl, hb⟩; rw [HB.out]; have HW2 : Hid (RW 100 w2 W.heap.size #[.string x0, .slice A1 n1 c1, .int .i64 x2, .int .i64 x3] ∧ Below W.heap.size W w2) := ⟨HW1.out.1.below hb HW1.out.1.lt, HW1.out.2.trans (hb.mono HW1.out.2.size)⟩; have y22 : w2.cell? ⟨W.heap.size, 2, none⟩ = some (.int .i64 x2) := HW2.out.1.cell 2; have y23 : w2.cell? ⟨W.heap.size, 3, none⟩ = some (.int .i64 x3) := HW2.out.1.cell 3; clear hb) | (go_at_call 59; have tk := tk1; refine Calls.mono (within_i64 x2 0 3 _) ?_; rintro e w3 ⟨rfl, rfl⟩; rw [HC.out]; clear tk tk1))
      go_ret
      exact ⟨rfl, HW2.out.2⟩
    cases d
    all_goals
      have tk1 : True := trivial
      go_enter Tryz.func109, Tryz.ntmps109
      go_wp2_with (first | (go_at_call 60; obtain ⟨g0, g1, g2⟩ := HO.out _ rfl; refine Calls.mono (impl_IsName_any x0 _ HS.out (classes_go HT.out g1)) ?_; rintro e w1 ⟨rfl, hb⟩; rw [HA.out]; have HW1 : Hid (RW 100 w1 W.heap.size #[.string x0, .slice A1 n1 c1, .int .i64 x2, .int .i64 x3] ∧ Below W.heap.size W w1) := ⟨g0.below hb g0.lt, g1.trans (hb.mono g1.size)⟩; have y11 : w1.cell? ⟨W.heap.size, 1, none⟩ = some (.slice A1 n1 c1) := HW1.out.1.cell 1; clear g0 g1 g2 hb) | (go_at_call 108; refine Calls.mono (areLines_any A1 n1 c1 40 200 x1 _ (HK1.out.go HW1.out.2) (by decide) (by decide)) ?_; rintro e w2 ⟨rfl, hb⟩; rw [HB.out]; have HW2 : Hid (RW 100 w2 W.heap.size #[.string x0, .slice A1 n1 c1, .int .i64 x2, .int .i64 x3] ∧ Below W.heap.size W w2) := ⟨HW1.out.1.below hb HW1.out.1.lt, HW1.out.2.trans (hb.mono HW1.out.2.size)⟩; have y22 : w2.cell? ⟨W.heap.size, 2, none⟩ = some (.int .i64 x2) := HW2.out.1.cell 2; have y23 : w2.cell? ⟨W.heap.size, 3, none⟩ = some (.int .i64 x3) := HW2.out.1.cell 3; clear hb) | (go_at_call 59; have tk := tk1; refine Calls.mono (within_i64 x2 0 3 _) ?_; rintro e w3 ⟨rfl, rfl⟩; rw [HC.out]; clear tk tk1) | (go_at_call 59; refine Calls.mono (within_i64 x3 0 0 _) ?_; rintro e w3 ⟨rfl, rfl⟩; rw [HD.out]))
      go_ret
      exact ⟨rfl, HW2.out.2⟩
  
  · have hpp : p = (n1 : Int) := by rw [hp]; rw [if_pos (by simpa using hu)]
    rw [hpp] at HD
    clear hpp
    clear hp
    cases a
    · have tk1 : True := trivial
      go_enter Tryz.func109, Tryz.ntmps109
      go_wp2_with (first | (go_at_call 60; obtain ⟨g0, g1, g2⟩ := HO.out _ rfl; refine Calls.mono (impl_IsName_any x0 _ HS.out (classes_go HT.out g1)) ?_; rintro e w1 ⟨rfl, hb⟩; rw [HA.out]; have HW1 : Hid (RW 100 w1 W.heap.size #[.string x0, .slice A1 n1 c1, .int .i64 x2, .int .i64 x3] ∧ Below W.heap.size W w1) := ⟨g0.below hb g0.lt, g1.trans (hb.mono g1.size)⟩; have y11 : w1.cell? ⟨W.heap.size, 1, none⟩ = some (.slice A1 n1 c1) := HW1.out.1.cell 1; clear g0 g1 g2 hb))
      go_ret
      exact ⟨rfl, HW1.out.2⟩
    cases b
    · have tk1 : True := trivial
      go_enter Tryz.func109, Tryz.ntmps109
      go_wp2_with (first | (go_at_call 60; obtain ⟨g0, g1, g2⟩ := HO.out _ rfl; refine Calls.mono (impl_IsName_any x0 _ HS.out (classes_go HT.out g1)) ?_; rintro e w1 ⟨rfl, hb⟩; rw [HA.out]; have HW1 : Hid (RW 100 w1 W.heap.size #[.string x0, .slice A1 n1 c1, .int .i64 x2, .int .i64 x3] ∧ Below W.heap.size W w1) := ⟨g0.below hb g0.lt, g1.trans (hb.mono g1.size)⟩; have y11 : w1.cell? ⟨W.heap.size, 1, none⟩ = some (.slice A1 n1 c1) := HW1.out.1.cell 1; clear g0 g1 g2 hb) | (go_at_call 108; refine Calls.mono (areLines_any A1 n1 c1 40 200 x1 _ (HK1.out.go HW1.out.2) (by decide) (by decide)) ?_; rintro e w2 ⟨rfl, hb⟩; rw [HB.out]; have HW2 : Hid (RW 100 w2 W.heap.size #[.string x0, .slice A1 n1 c1, .int .i64 x2, .int .i64 x3] ∧ Below W.heap.size W w2) := ⟨HW1.out.1.below hb HW1.out.1.lt, HW1.out.2.trans (hb.mono HW1.out.2.size)⟩; have y22 : w2.cell? ⟨W.heap.size, 2, none⟩ = some (.int .i64 x2) := HW2.out.1.cell 2; have y23 : w2.cell? ⟨W.heap.size, 3, none⟩ = some (.int .i64 x3) := HW2.out.1.cell 3; clear hb))
      go_ret
      exact ⟨rfl, HW2.out.2⟩
    cases c
    · have tk1 : True := trivial
      go_enter Tryz.func109, Tryz.ntmps109
      go_wp2_with (first | (go_at_call 60; obtain ⟨g0, g1, g2⟩ := HO.out _ rfl; refine Calls.mono (impl_IsName_any x0 _ HS.out (classes_go HT.out g1)) ?_; rintro e w1 ⟨rfl, hb⟩; rw [HA.out]; have HW1 : Hid (RW 100 w1 W.heap.size #[.string x0, .slice A1 n1 c1, .int .i64 x2, .int .i64 x3] ∧ Below W.heap.size W w1) := ⟨g0.below hb g0.lt, g1.trans (hb.mono g1.size)⟩; have y11 : w1.cell? ⟨W.heap.size, 1, none⟩ = some (.slice A1 n1 c1) := HW1.out.1.cell 1; clear g0 g1 g2 hb) | (go_at_call 108; refine Calls.mono (areLines_any A1 n1 c1 40 200 x1 _ (HK1.out.go HW1.out.2) (by decide) (by decide)) ?_; rintro e w2 ⟨rfl, hb⟩; rw [HB.out]; have HW2 : Hid (RW 100 w2 W.heap.size #[.string x0, .slice A1 n1 c1, .int .i64 x2, .int .i64 x3] ∧ Below W.heap.size W w2) := ⟨HW1.out.1.below hb HW1.out.1.lt, HW1.out.2.trans (hb.mono HW1.out.2.size)⟩; have y22 : w2.cell? ⟨W.heap.size, 2, none⟩ = some (.int .i64 x2) := HW2.out.1.cell 2; have y23 : w2.cell? ⟨W.heap.size, 3, none⟩ = some (.int .i64 x3) := HW2.out.1.cell 3; clear hb) | (go_at_call 59; have tk := tk1; refine Calls.mono (within_i64 x2 0 3 _) ?_; rintro e w3 ⟨rfl, rfl⟩; rw [HC.out]; clear tk tk1))
      go_ret
      exact ⟨rfl, HW2.out.2⟩
    cases d
    all_goals
      have tk1 : True := trivial
      go_enter Tryz.func109, Tryz.ntmps109
      go_wp2_with (first | (go_at_call 60; obtain ⟨g0, g1, g2⟩ := HO.out _ rfl; refine Calls.mono (impl_IsName_any x0 _ HS.out (classes_go HT.out g1)) ?_; rintro e w1 ⟨rfl, hb⟩; rw [HA.out]; have HW1 : Hid (RW 100 w1 W.heap.size #[.string x0, .slice A1 n1 c1, .int .i64 x2, .int .i64 x3] ∧ Below W.heap.size W w1) := ⟨g0.below hb g0.lt, g1.trans (hb.mono g1.size)⟩; have y11 : w1.cell? ⟨W.heap.size, 1, none⟩ = some (.slice A1 n1 c1) := HW1.out.1.cell 1; clear g0 g1 g2 hb) | (go_at_call 108; refine Calls.mono (areLines_any A1 n1 c1 40 200 x1 _ (HK1.out.go HW1.out.2) (by decide) (by decide)) ?_; rintro e w2 ⟨rfl, hb⟩; rw [HB.out]; have HW2 : Hid (RW 100 w2 W.heap.size #[.string x0, .slice A1 n1 c1, .int .i64 x2, .int .i64 x3] ∧ Below W.heap.size W w2) := ⟨HW1.out.1.below hb HW1.out.1.lt, HW1.out.2.trans (hb.mono HW1.out.2.size)⟩; have y22 : w2.cell? ⟨W.heap.size, 2, none⟩ = some (.int .i64 x2) := HW2.out.1.cell 2; have y23 : w2.cell? ⟨W.heap.size, 3, none⟩ = some (.int .i64 x3) := HW2.out.1.cell 3; clear hb) | (go_at_call 59; have tk := tk1; refine Calls.mono (within_i64 x2 0 3 _) ?_; rintro e w3 ⟨rfl, rfl⟩; rw [HC.out]; clear tk tk1) | (go_at_call 59; refine Calls.mono (within_i64 x3 0 (n1 : Int) _) ?_; rintro e w3 ⟨rfl, rfl⟩; rw [HD.out]))
      go_ret
      exact ⟨rfl, HW2.out.2⟩
end Go.Proofs.YtfcpdjfckeoniaaGreatDoor

namespace Go.Proofs.YtfcpdjfckeoniaaGreatDoor
open Go Go.RowKit Go.Sort

/-- The lists of a console but its files. -/
def partsB (x : Cn) : Bool := linesB x.input_ 100 200 && (decide (0 ≤ x.at_ ∧ x.at_ ≤ (x.input_.length : Int)) && (linesB x.output_ 100 200 && linesB x.trace_ 200 1300))
noncomputable def filesB (xs : List Fl) : Bool := tt (ListOk fileB Fl.name_ 6 xs)
/-- Whether a console is valid. -/
noncomputable def consoleB (x : Cn) : Bool := partsB x && filesB x.files_

set_option maxHeartbeats 1000000 in
set_option maxRecDepth 100000 in
theorem areFiles_any (A : Option Addr) (n c : Nat) (xs : List Fl) (W : World) (hr : FlI W W.heap.size A n xs) (hT : Classes W) :
    Calls Tryz.prog 65 #[.slice A n c] W fun e w' => e = .returned (.bool (filesB xs)) ∧ Below W.heap.size W w' := by
  unfold filesB
  obtain ⟨P, hP⟩ : ∃ P, tt (ListOk fileB Fl.name_ 6 xs) = P := ⟨_, rfl⟩
  have HNO : Hid (¬ ListOk fileB Fl.name_ 6 xs → P = false) := fun h => by rw [← hP]; exact tt_false h
  have HYES : Hid (ListOk fileB Fl.name_ 6 xs → P = true) := fun h => by rw [← hP]; exact tt_true h
  rw [hP]
  clear hP
  have HR := Lib.hid hr
  have HT := Lib.hid hT
  have hl := hr.1
  have HLL := Lib.hid hl
  clear hr hT
  by_cases hn : n ≤ 6
  case neg =>
    have HF : Hid (P = false) := HNO.out fun h => by have := h.1; omega
    have d1 : (6 : Int) < (n : Int) := by omega
    go_enter Tryz.func65, Tryz.ntmps65
    go_wp2_with fail
    go_ret
    exact ⟨by rw [HF.out]; rfl, Below.refl _ _⟩
  have d1 : ¬ (6 : Int) < (n : Int) := by omega
  have HN := Lib.hid hn
  have hnm : n ≤ 6 := hn
  clear hn hl
  go_enter Tryz.func65, Tryz.ntmps65
  go_wp2_with fail
  go_loopw [10] (fun i wr => ∃ k : Nat, k ≤ n ∧ i = .int .i64 k ∧ Hid (Below W.heap.size W wr) ∧ Hid (UpOk fileB Fl.name_ xs k)) (fun i _ => n - (intOf i).toNat)
  case atStart => exact ⟨0, Nat.zero_le _, rfl, Below.refl _ _, Lib.hid UpOk.zero⟩
  case round =>
    obtain ⟨k, hk, rfl, HB, HV⟩ := hrel
    by_cases hlt : k < n
    · have b0 : (0 : Int) ≤ (k : Int) := by omega
      have b1 : (k : Int) < (n : Int) := by omega
      obtain ⟨b, off, x, l, rfl, hg, hx, ⟨q0, q1, q2, q3⟩, hv⟩ := (HR.out.go HB.out).at_ hlt
      have HX := Lib.hid hx
      have HGB : Hid (b < wr.heap.size) := hg
      have HEL := Lib.hid (fun (w : World) (hb : Below wr.heap.size wr w) => isFile_any x l w (hv.go hb) (classes_go HT.out (HB.out.trans (hb.mono HB.out.size))))
      obtain ⟨x0, x1, x2, x3⟩ := x
      obtain ⟨a1, s1, d1', e1⟩ := l
      dsimp only at q0 q1 q2 q3
      obtain ⟨z0, hz0⟩ : ∃ z, fileB ⟨x0, x1, x2, x3⟩ = z := ⟨_, rfl⟩
      have HZ := Lib.hid hz0
      clear hx hg hv hz0

      cases z0
      case false =>
        have HF : Hid (P = false) := HNO.out (not_ok HX.out HZ.out)
        go_wp2_with fail
        obtain ⟨w0, hw0⟩ : ∃ w0, wr.alloc (.cells #[.string x0, .slice a1 s1 d1', .int .i64 x2, .int .i64 x3] 100) = w0 := ⟨_, rfl⟩
        have g1 : Below wr.heap.size wr w0 := by rw [← hw0]; exact below_alloc _ _
        have HR0 := Lib.hid (one_new1 wr 100 #[.string x0, .slice a1 s1 d1', .int .i64 x2, .int .i64 x3] w0 hw0.symm).1
        have HB0 := Lib.hid (HB.out.trans (g1.mono HB.out.size))
        rw [hw0]
        have xx0 := cell_regrown (HR0.out.cell 0)
        have xx1 := cell_regrown (HR0.out.cell 1)
        have xx2 := cell_regrown (HR0.out.cell 2)
        have xx3 := cell_regrown (HR0.out.cell 3)
        have cA : ∀ d os', Calls Tryz.prog 109 #[.agg #[.string x0, .slice a1 s1 d1', .int .i64 x2, .int .i64 x3]] (grow (redrawn w0 d) os') (fun e w'' => e = .returned (.bool false) ∧ ∃ q : Regrown, w'' = grow (redrawn w0 q.d) q.os) := fun d os' => Calls.regrown_of (by have hb := g1.trans ((below_regrown w0 d os').mono g1.size); have h := HEL.out _ hb; rw [HZ.out] at h; exact h)
        clear hw0 g1 q0 q1 q2 q3
        refine wp_region_quiet_below (by kernel_rfl) (by kernel_rfl) ?_
        repeat (first | go_big_quiet_step (with_reducible exact cA _ _) | quiet_step (with_reducible exact cA _ _))
        refine wpQuiet_nil ?_
        intro w4 hw'
        obtain ⟨⟨dq, osq⟩, hw''⟩ := hw'
        have HB4 : Hid (Below W.heap.size W w4) := by show Below _ _ _; rw [hw'']; exact HB0.out.trans ((below_regrown w0 dq osq).mono HB0.out.size)
        clear hw'' xx0 xx1 xx2 xx3 cA
        go_wp2_with fail
        go_ret
        exact ⟨by rw [HF.out]; rfl, HB4.out⟩
      have HOK : Hid (fileB ⟨x0, x1, x2, x3⟩ = true) := HZ.out
      by_cases hkp : k = 0
      · subst hkp
        have HV2 := Lib.hid (UpOk.first (nm := Fl.name_) HX.out HOK.out)
        simp only [Nat.zero_mul, Nat.add_zero] at q0 q1 q2 q3
        go_wp2_with fail
        obtain ⟨w0, hw0⟩ : ∃ w0, wr.alloc (.cells #[.string x0, .slice a1 s1 d1', .int .i64 x2, .int .i64 x3] 100) = w0 := ⟨_, rfl⟩
        have g1 : Below wr.heap.size wr w0 := by rw [← hw0]; exact below_alloc _ _
        have HR0 := Lib.hid (one_new1 wr 100 #[.string x0, .slice a1 s1 d1', .int .i64 x2, .int .i64 x3] w0 hw0.symm).1
        have HB0 := Lib.hid (HB.out.trans (g1.mono HB.out.size))
        rw [hw0]
        have xx0 := cell_regrown (HR0.out.cell 0)
        have xx1 := cell_regrown (HR0.out.cell 1)
        have xx2 := cell_regrown (HR0.out.cell 2)
        have xx3 := cell_regrown (HR0.out.cell 3)
        have cA : ∀ d os', Calls Tryz.prog 109 #[.agg #[.string x0, .slice a1 s1 d1', .int .i64 x2, .int .i64 x3]] (grow (redrawn w0 d) os') (fun e w'' => e = .returned (.bool true) ∧ ∃ q : Regrown, w'' = grow (redrawn w0 q.d) q.os) := fun d os' => Calls.regrown_of (by have hb := g1.trans ((below_regrown w0 d os').mono g1.size); have h := HEL.out _ hb; rw [HZ.out] at h; exact h)
        clear hw0 g1 q0 q1 q2 q3
        refine wp_region_quiet_below (by kernel_rfl) (by kernel_rfl) ?_
        repeat (first | go_big_quiet_step (with_reducible exact cA _ _) | quiet_step (with_reducible exact cA _ _))
        refine wpQuiet_nil ?_
        intro w4 hw'
        obtain ⟨⟨dq, osq⟩, hw''⟩ := hw'
        have HB4 : Hid (Below W.heap.size W w4) := by show Below _ _ _; rw [hw'']; exact HB0.out.trans ((below_regrown w0 dq osq).mono HB0.out.size)
        clear hw'' xx0 xx1 xx2 xx3 cA
        go_wp2_with fail
        go_roundw
        case rel => exact ⟨0 + 1, by omega, by go_num, HB4, HV2⟩
        case measure => simp [intOf]; omega
      obtain ⟨j, hj⟩ : ∃ j, k = j + 1 := ⟨k - 1, by omega⟩
      have hj1 : (k : Int) - 1 = (j : Int) := by omega
      have hkp2 : (0 : Int) < (k : Int) := by omega
      have hkp3 : decide ((0 : Int) < (k : Int)) = true := by simp; omega
      have hkp4 : decide (0 < k) = true := by simp; omega
      have hkp5 : 0 < k := by omega
      have e0 : (0 : Int) ≤ (j : Int) := by omega
      have e1' : (j : Int) < (n : Int) := by omega
      obtain ⟨b', off', y, l', hA, hg', hy, ⟨r0, r1, r2, r3⟩, _⟩ := (HR.out.go HB.out).at_ (show j < n by omega)
      simp only [Option.some.injEq, Addr.mk.injEq, and_true] at hA
      obtain ⟨rfl, rfl⟩ := hA
      have HY : Hid (xs[k - 1]? = some y) := by show _ = _; rw [show k - 1 = j by omega]; exact hy
      clear hj hkp hg' hy r1 r2 r3
      obtain ⟨R, hRR⟩ : ∃ z, Op.bytesLess y.name_.toList x0.toList = z := ⟨_, rfl⟩
      have HRR := Lib.hid hRR
      cases R
      · have HF : Hid (P = false) := HNO.out (not_up hkp5 HX.out HY.out HRR.out)
        go_wp2_with fail
        obtain ⟨w0, hw0⟩ : ∃ w0, wr.alloc (.cells #[.string x0, .slice a1 s1 d1', .int .i64 x2, .int .i64 x3] 100) = w0 := ⟨_, rfl⟩
        have g1 : Below wr.heap.size wr w0 := by rw [← hw0]; exact below_alloc _ _
        have HR0 := Lib.hid (one_new1 wr 100 #[.string x0, .slice a1 s1 d1', .int .i64 x2, .int .i64 x3] w0 hw0.symm).1
        have HB0 := Lib.hid (HB.out.trans (g1.mono HB.out.size))
        rw [hw0]
        have xx0 := cell_regrown (HR0.out.cell 0)
        have xx1 := cell_regrown (HR0.out.cell 1)
        have xx2 := cell_regrown (HR0.out.cell 2)
        have xx3 := cell_regrown (HR0.out.cell 3)
        have y0 := cell_regrown ((g1.cell (p := ⟨b, off + j * 4, none⟩) HGB.out).trans r0)
        have cA : ∀ d os', Calls Tryz.prog 109 #[.agg #[.string x0, .slice a1 s1 d1', .int .i64 x2, .int .i64 x3]] (grow (redrawn w0 d) os') (fun e w'' => e = .returned (.bool true) ∧ ∃ q : Regrown, w'' = grow (redrawn w0 q.d) q.os) := fun d os' => Calls.regrown_of (by have hb := g1.trans ((below_regrown w0 d os').mono g1.size); have h := HEL.out _ hb; rw [HZ.out] at h; exact h)
        clear hw0 g1 q0 q1 q2 q3 r0
        refine wp_region_quiet_below (by kernel_rfl) (by kernel_rfl) ?_
        repeat (first | go_big_quiet_step (with_reducible exact cA _ _) | quiet_step (with_reducible exact cA _ _))
        refine wpQuiet_nil ?_
        intro w4 hw'
        obtain ⟨⟨dq, osq⟩, hw''⟩ := hw'
        have HB4 : Hid (Below W.heap.size W w4) := by show Below _ _ _; rw [hw'']; exact HB0.out.trans ((below_regrown w0 dq osq).mono HB0.out.size)
        clear hw'' xx0 xx1 xx2 xx3 cA y0
        go_wp2_with fail
        go_ret
        exact ⟨by rw [HF.out]; rfl, HB4.out⟩
      · have HV2 := Lib.hid (UpOk.next HV.out HX.out HOK.out HY.out HRR.out)
        go_wp2_with fail
        obtain ⟨w0, hw0⟩ : ∃ w0, wr.alloc (.cells #[.string x0, .slice a1 s1 d1', .int .i64 x2, .int .i64 x3] 100) = w0 := ⟨_, rfl⟩
        have g1 : Below wr.heap.size wr w0 := by rw [← hw0]; exact below_alloc _ _
        have HR0 := Lib.hid (one_new1 wr 100 #[.string x0, .slice a1 s1 d1', .int .i64 x2, .int .i64 x3] w0 hw0.symm).1
        have HB0 := Lib.hid (HB.out.trans (g1.mono HB.out.size))
        rw [hw0]
        have xx0 := cell_regrown (HR0.out.cell 0)
        have xx1 := cell_regrown (HR0.out.cell 1)
        have xx2 := cell_regrown (HR0.out.cell 2)
        have xx3 := cell_regrown (HR0.out.cell 3)
        have y0 := cell_regrown ((g1.cell (p := ⟨b, off + j * 4, none⟩) HGB.out).trans r0)
        have cA : ∀ d os', Calls Tryz.prog 109 #[.agg #[.string x0, .slice a1 s1 d1', .int .i64 x2, .int .i64 x3]] (grow (redrawn w0 d) os') (fun e w'' => e = .returned (.bool true) ∧ ∃ q : Regrown, w'' = grow (redrawn w0 q.d) q.os) := fun d os' => Calls.regrown_of (by have hb := g1.trans ((below_regrown w0 d os').mono g1.size); have h := HEL.out _ hb; rw [HZ.out] at h; exact h)
        clear hw0 g1 q0 q1 q2 q3 r0
        refine wp_region_quiet_below (by kernel_rfl) (by kernel_rfl) ?_
        repeat (first | go_big_quiet_step (with_reducible exact cA _ _) | quiet_step (with_reducible exact cA _ _))
        refine wpQuiet_nil ?_
        intro w4 hw'
        obtain ⟨⟨dq, osq⟩, hw''⟩ := hw'
        have HB4 : Hid (Below W.heap.size W w4) := by show Below _ _ _; rw [hw'']; exact HB0.out.trans ((below_regrown w0 dq osq).mono HB0.out.size)
        clear hw'' xx0 xx1 xx2 xx3 cA y0
        go_wp2_with fail
        go_roundw
        case rel => exact ⟨k + 1, by omega, by go_num, HB4, HV2⟩
        case measure => simp [intOf]; omega
    · have hkn : k = n := by omega
      have HT1 : Hid (P = true) := HYES.out (by
        refine ⟨by have := HLL.out; have := HN.out; omega, ?_⟩
        rw [HLL.out, ← hkn]
        exact HV.out)
      have hnk : ¬ (k : Int) < (n : Int) := by omega
      clear HV hkn
      go_wp2_with fail
      go_ret
      exact ⟨by rw [HT1.out]; rfl, HB.out⟩

set_option maxHeartbeats 1000000 in
set_option maxRecDepth 100000 in
theorem hasLines_any (x : Cn) (l : CnLay) (W : World) (hx : CnV W W.heap.size x l) :
    Calls Tryz.prog 64 #[x.ag l] W fun e w' => e = .returned (.bool (partsB x)) ∧ Below W.heap.size W w' := by
  unfold partsB
  obtain ⟨x0, x1, x2, x3, x4⟩ := x
  obtain ⟨A0, n0, c0, h0, A2, n2, c2, h2, A3, n3, c3, h3, A4, n4, c4, h4⟩ := l
  obtain ⟨k0, k2, k3, k4⟩ := hx
  dsimp only at k0 k2 k3 k4 ⊢
  have HK0 := Lib.hid k0
  have HK2 := Lib.hid k2
  have HK3 := Lib.hid k3
  have HK4 := Lib.hid k4
  have hn0 := k0.2.1
  unfold maxLen at hn0
  rw [k0.1]
  obtain ⟨a, ha⟩ : ∃ z, linesB x0 100 200 = z := ⟨_, rfl⟩
  obtain ⟨b, hb⟩ : ∃ z, decide (0 ≤ x1 ∧ x1 ≤ (n0 : Int)) = z := ⟨_, rfl⟩
  obtain ⟨c, hc⟩ : ∃ z, linesB x2 100 200 = z := ⟨_, rfl⟩
  obtain ⟨d, hd⟩ : ∃ z, linesB x4 200 1300 = z := ⟨_, rfl⟩
  have HA := Lib.hid ha
  have HB := Lib.hid hb
  have HC := Lib.hid hc
  have HD := Lib.hid hd
  rw [ha, hb, hc, hd]
  clear k0 k2 k3 k4 ha hb hc hd
  have HO := Lib.hid (fun X (e : X = W.alloc (.cells #[.slice A0 n0 c0, .int .i64 x1, .slice A2 n2 c2, .slice A3 n3 c3, .slice A4 n4 c4] 32)) => one_new1 W 32 #[.slice A0 n0 c0, .int .i64 x1, .slice A2 n2 c2, .slice A3 n3 c3, .slice A4 n4 c4] X e)
  show Calls Tryz.prog 64 #[.agg #[.slice A0 n0 c0, .int .i64 x1, .slice A2 n2 c2, .slice A3 n3 c3, .slice A4 n4 c4]] W _
  cases a
  · skip
    have tk1 : True := trivial
    go_enter Tryz.func64, Tryz.ntmps64
    go_wp2_with (go_at_call 108; have tk := tk1; obtain ⟨g0, g1, g2⟩ := HO.out _ rfl; refine Calls.mono (areLines_any A0 n0 c0 100 200 x0 _ (HK0.out.go g1) (by decide) (by decide)) ?_; rintro e w1 ⟨rfl, hb⟩; rw [HA.out]; have HW1 : Hid (RW 32 w1 W.heap.size #[.slice A0 n0 c0, .int .i64 x1, .slice A2 n2 c2, .slice A3 n3 c3, .slice A4 n4 c4] ∧ Below W.heap.size W w1) := ⟨g0.below hb g0.lt, g1.trans (hb.mono g1.size)⟩; have y10 : w1.cell? ⟨W.heap.size, 0, none⟩ = some (.slice A0 n0 c0) := HW1.out.1.cell 0; have y11 : w1.cell? ⟨W.heap.size, 1, none⟩ = some (.int .i64 x1) := HW1.out.1.cell 1; have y12 : w1.cell? ⟨W.heap.size, 2, none⟩ = some (.slice A2 n2 c2) := HW1.out.1.cell 2; clear g0 g1 g2 hb tk tk1)
    go_ret
    exact ⟨rfl, HW1.out.2⟩
  cases b
  · skip
    have tk1 : True := trivial
    go_enter Tryz.func64, Tryz.ntmps64
    go_wp2_with (go_at_call 108; have tk := tk1; obtain ⟨g0, g1, g2⟩ := HO.out _ rfl; refine Calls.mono (areLines_any A0 n0 c0 100 200 x0 _ (HK0.out.go g1) (by decide) (by decide)) ?_; rintro e w1 ⟨rfl, hb⟩; rw [HA.out]; have HW1 : Hid (RW 32 w1 W.heap.size #[.slice A0 n0 c0, .int .i64 x1, .slice A2 n2 c2, .slice A3 n3 c3, .slice A4 n4 c4] ∧ Below W.heap.size W w1) := ⟨g0.below hb g0.lt, g1.trans (hb.mono g1.size)⟩; have y10 : w1.cell? ⟨W.heap.size, 0, none⟩ = some (.slice A0 n0 c0) := HW1.out.1.cell 0; have y11 : w1.cell? ⟨W.heap.size, 1, none⟩ = some (.int .i64 x1) := HW1.out.1.cell 1; have y12 : w1.cell? ⟨W.heap.size, 2, none⟩ = some (.slice A2 n2 c2) := HW1.out.1.cell 2; clear g0 g1 g2 hb tk tk1)
    go_wp2_with (go_at_call 59; refine Calls.mono (within_i64 x1 0 (n0 : Int) _) ?_; rintro e w9 ⟨rfl, rfl⟩; rw [HB.out])
    go_ret
    exact ⟨rfl, HW1.out.2⟩
  cases c
  · skip
    have tk1 : True := trivial
    go_enter Tryz.func64, Tryz.ntmps64
    go_wp2_with (go_at_call 108; have tk := tk1; obtain ⟨g0, g1, g2⟩ := HO.out _ rfl; refine Calls.mono (areLines_any A0 n0 c0 100 200 x0 _ (HK0.out.go g1) (by decide) (by decide)) ?_; rintro e w1 ⟨rfl, hb⟩; rw [HA.out]; have HW1 : Hid (RW 32 w1 W.heap.size #[.slice A0 n0 c0, .int .i64 x1, .slice A2 n2 c2, .slice A3 n3 c3, .slice A4 n4 c4] ∧ Below W.heap.size W w1) := ⟨g0.below hb g0.lt, g1.trans (hb.mono g1.size)⟩; have y10 : w1.cell? ⟨W.heap.size, 0, none⟩ = some (.slice A0 n0 c0) := HW1.out.1.cell 0; have y11 : w1.cell? ⟨W.heap.size, 1, none⟩ = some (.int .i64 x1) := HW1.out.1.cell 1; have y12 : w1.cell? ⟨W.heap.size, 2, none⟩ = some (.slice A2 n2 c2) := HW1.out.1.cell 2; clear g0 g1 g2 hb tk tk1)
    go_wp2_with (go_at_call 59; refine Calls.mono (within_i64 x1 0 (n0 : Int) _) ?_; rintro e w9 ⟨rfl, rfl⟩; rw [HB.out])
    have tk2 : True := trivial
    go_wp2_with (go_at_call 108; have tk := tk2; refine Calls.mono (areLines_any A2 n2 c2 100 200 x2 _ (HK2.out.go HW1.out.2) (by decide) (by decide)) ?_; rintro e w2 ⟨rfl, hb⟩; rw [HC.out]; have HW2 : Hid (RW 32 w2 W.heap.size #[.slice A0 n0 c0, .int .i64 x1, .slice A2 n2 c2, .slice A3 n3 c3, .slice A4 n4 c4] ∧ Below W.heap.size W w2) := ⟨HW1.out.1.below hb HW1.out.1.lt, HW1.out.2.trans (hb.mono HW1.out.2.size)⟩; have y24 : w2.cell? ⟨W.heap.size, 4, none⟩ = some (.slice A4 n4 c4) := HW2.out.1.cell 4; clear hb tk tk2)
    go_ret
    exact ⟨rfl, HW2.out.2⟩
  cases d
  all_goals
    have tk1 : True := trivial
    go_enter Tryz.func64, Tryz.ntmps64
    go_wp2_with (go_at_call 108; have tk := tk1; obtain ⟨g0, g1, g2⟩ := HO.out _ rfl; refine Calls.mono (areLines_any A0 n0 c0 100 200 x0 _ (HK0.out.go g1) (by decide) (by decide)) ?_; rintro e w1 ⟨rfl, hb⟩; rw [HA.out]; have HW1 : Hid (RW 32 w1 W.heap.size #[.slice A0 n0 c0, .int .i64 x1, .slice A2 n2 c2, .slice A3 n3 c3, .slice A4 n4 c4] ∧ Below W.heap.size W w1) := ⟨g0.below hb g0.lt, g1.trans (hb.mono g1.size)⟩; have y10 : w1.cell? ⟨W.heap.size, 0, none⟩ = some (.slice A0 n0 c0) := HW1.out.1.cell 0; have y11 : w1.cell? ⟨W.heap.size, 1, none⟩ = some (.int .i64 x1) := HW1.out.1.cell 1; have y12 : w1.cell? ⟨W.heap.size, 2, none⟩ = some (.slice A2 n2 c2) := HW1.out.1.cell 2; clear g0 g1 g2 hb tk tk1)
    go_wp2_with (go_at_call 59; refine Calls.mono (within_i64 x1 0 (n0 : Int) _) ?_; rintro e w9 ⟨rfl, rfl⟩; rw [HB.out])
    have tk2 : True := trivial
    go_wp2_with (go_at_call 108; have tk := tk2; refine Calls.mono (areLines_any A2 n2 c2 100 200 x2 _ (HK2.out.go HW1.out.2) (by decide) (by decide)) ?_; rintro e w2 ⟨rfl, hb⟩; rw [HC.out]; have HW2 : Hid (RW 32 w2 W.heap.size #[.slice A0 n0 c0, .int .i64 x1, .slice A2 n2 c2, .slice A3 n3 c3, .slice A4 n4 c4] ∧ Below W.heap.size W w2) := ⟨HW1.out.1.below hb HW1.out.1.lt, HW1.out.2.trans (hb.mono HW1.out.2.size)⟩; have y24 : w2.cell? ⟨W.heap.size, 4, none⟩ = some (.slice A4 n4 c4) := HW2.out.1.cell 4; clear hb tk tk2)
    have tk3 : True := trivial
    go_wp2_with (go_at_call 108; have tk := tk3; refine Calls.mono (areLines_any A4 n4 c4 200 1300 x4 _ (HK4.out.go HW2.out.2) (by decide) (by decide)) ?_; rintro e w3 ⟨rfl, hb⟩; rw [HD.out]; have HW3 : Hid (RW 32 w3 W.heap.size #[.slice A0 n0 c0, .int .i64 x1, .slice A2 n2 c2, .slice A3 n3 c3, .slice A4 n4 c4] ∧ Below W.heap.size W w3) := ⟨HW2.out.1.below hb HW2.out.1.lt, HW2.out.2.trans (hb.mono HW2.out.2.size)⟩; clear hb tk tk3)
    go_ret
    exact ⟨rfl, HW3.out.2⟩

set_option maxHeartbeats 1000000 in
set_option maxRecDepth 100000 in
theorem impl_ValidConsole_any (x : Cn) (l : CnLay) (W : World) (hx : CnV W W.heap.size x l) (hT : Classes W) :
    Calls Tryz.prog 27 #[x.ag l] W fun e w' => e = .returned (.bool (consoleB x)) ∧ Below W.heap.size W w' := by
  unfold consoleB
  have HT := Lib.hid hT
  have HQ := Lib.hid (fun (w : World) (hb : Below W.heap.size W w) => hasLines_any x l w (hx.go hb))
  obtain ⟨x0, x1, x2, x3, x4⟩ := x
  obtain ⟨A0, n0, c0, h0, A2, n2, c2, h2, A3, n3, c3, h3, A4, n4, c4, h4⟩ := l
  obtain ⟨k0, k2, k3, k4⟩ := hx
  dsimp only at k3 ⊢
  have HK3 := Lib.hid k3
  obtain ⟨a, ha⟩ : ∃ z, partsB ⟨x0, x1, x2, x3, x4⟩ = z := ⟨_, rfl⟩
  obtain ⟨b, hb⟩ : ∃ z, filesB x3 = z := ⟨_, rfl⟩
  have HA := Lib.hid ha
  have HB := Lib.hid hb
  rw [ha, hb]
  clear k0 k2 k3 k4 ha hb hT
  have HO := Lib.hid (fun X (e : X = W.alloc (.cells #[.slice A0 n0 c0, .int .i64 x1, .slice A2 n2 c2, .slice A3 n3 c3, .slice A4 n4 c4] 32)) => one_new1 W 32 #[.slice A0 n0 c0, .int .i64 x1, .slice A2 n2 c2, .slice A3 n3 c3, .slice A4 n4 c4] X e)
  show Calls Tryz.prog 27 #[.agg #[.slice A0 n0 c0, .int .i64 x1, .slice A2 n2 c2, .slice A3 n3 c3, .slice A4 n4 c4]] W _
  cases a
  · go_enter Tryz.func27, Tryz.ntmps27
    go_wp2_with (go_at_call 64; obtain ⟨g0, g1, g2⟩ := HO.out _ rfl; refine Calls.mono (HQ.out _ g1) ?_; rintro e w1 ⟨rfl, hb⟩; rw [HA.out]; have HB1 := Lib.hid (g1.trans (hb.mono g1.size)); clear g0 g1 g2 hb)
    go_ret
    exact ⟨rfl, HB1.out⟩
  · cases b
    all_goals
      go_enter Tryz.func27, Tryz.ntmps27
      go_wp2_with (go_at_call 64; obtain ⟨g0, g1, g2⟩ := HO.out _ rfl; refine Calls.mono (HQ.out _ g1) ?_; rintro e w1 ⟨rfl, hb⟩; rw [HA.out]; have HB1 := Lib.hid (g1.trans (hb.mono g1.size)); have y3 : w1.cell? ⟨W.heap.size, 3, none⟩ = some (.slice A3 n3 c3) := (g0.below hb g0.lt).cell 3; clear g0 g1 g2 hb)
      go_wp2_with (go_at_call 65; refine Calls.mono (areFiles_any A3 n3 c3 x3 _ (HK3.out.go HB1.out) (classes_go HT.out HB1.out)) ?_; rintro e w2 ⟨rfl, hb⟩; rw [HB.out]; have HB2 := Lib.hid (HB1.out.trans (hb.mono HB1.out.size)); clear hb)
      go_ret
      exact ⟨rfl, HB2.out⟩

set_option maxHeartbeats 1000000 in
set_option maxRecDepth 100000 in
theorem l21Ok_any (x : Cn) (l : CnLay) (g : Nat) (W : World) (hx : CnV W W.heap.size x l) (hg : RW 32 W g (x.vs l).toArray) :
    Calls Tryz.prog 22 #[.pointer (some ⟨g, 0, none⟩)] W fun e w' => e = .returned (.bool (consoleB x)) ∧ Below W.heap.size W w' := by
  unfold consoleB partsB filesB
  obtain ⟨x0, x1, x2, x3, x4⟩ := x
  obtain ⟨A0, n0, c0, h0, A2, n2, c2, h2, A3, n3, c3, h3, A4, n4, c4, h4⟩ := l
  obtain ⟨k0, k2, k3, k4⟩ := hx
  dsimp only at k0 k2 k3 k4 ⊢
  have HK0 := Lib.hid k0
  have HK2 := Lib.hid k2
  have HK3 := Lib.hid k3
  have HK4 := Lib.hid k4
  have hn0 := k0.2.1
  unfold maxLen at hn0
  have hn3 := k3.2.1
  unfold maxLen at hn3
  have HLL := Lib.hid k3.1
  rw [k0.1]
  have HRW : Hid (RW 32 W g #[.slice A0 n0 c0, .int .i64 x1, .slice A2 n2 c2, .slice A3 n3 c3, .slice A4 n4 c4]) := hg
  obtain ⟨a, ha⟩ : ∃ z, linesB x0 100 200 = z := ⟨_, rfl⟩
  obtain ⟨b, hb⟩ : ∃ z, decide (0 ≤ x1 ∧ x1 ≤ (n0 : Int)) = z := ⟨_, rfl⟩
  obtain ⟨c, hc⟩ : ∃ z, linesB x2 100 200 = z := ⟨_, rfl⟩
  obtain ⟨d, hd⟩ : ∃ z, linesB x4 200 1300 = z := ⟨_, rfl⟩
  have HA := Lib.hid ha
  have HB := Lib.hid hb
  have HC := Lib.hid hc
  have HD := Lib.hid hd
  rw [ha, hb, hc, hd]
  clear k0 k2 k3 k4 ha hb hc hd hg
  obtain ⟨P, hP⟩ : ∃ P, tt (ListOk fileB Fl.name_ 6 x3) = P := ⟨_, rfl⟩
  have HNO : Hid (¬ ListOk fileB Fl.name_ 6 x3 → P = false) := fun h => by rw [← hP]; exact tt_false h
  have HYES : Hid (ListOk fileB Fl.name_ 6 x3 → P = true) := fun h => by rw [← hP]; exact tt_true h
  rw [hP]
  clear hP
  cases a
  · skip
    go_enter Tryz.func22, Tryz.ntmps22
    go_wp2_with fail
    have z0 := cell_regrown (HRW.out.cell 0)
    have z1 := cell_regrown (HRW.out.cell 1)
    have z2 := cell_regrown (HRW.out.cell 2)
    have z3 := cell_regrown (HRW.out.cell 3)
    have z4 := cell_regrown (HRW.out.cell 4)
    have cA : ∀ (d' : Nat) (os : Array Obj), Calls Tryz.prog 55 #[.slice A0 n0 c0, .int .i64 100, .int .i64 200] (grow (redrawn W d') os) (fun e w'' => e = .returned (.bool false) ∧ ∃ q : Regrown, w'' = grow (redrawn W q.d) q.os) := fun (d : Nat) (os : Array Obj) => same_regrown (w := W) (d := d) (os := os) (l21Lines_any A0 n0 c0 100 200 x0 _ (HK0.out.go (below_regrown W d os)) (by decide) (by decide)) HA.out
    have cC : ∀ (d' : Nat) (os : Array Obj), Calls Tryz.prog 55 #[.slice A2 n2 c2, .int .i64 100, .int .i64 200] (grow (redrawn W d') os) (fun e w'' => e = .returned (.bool c) ∧ ∃ q : Regrown, w'' = grow (redrawn W q.d) q.os) := fun (d : Nat) (os : Array Obj) => same_regrown (w := W) (d := d) (os := os) (l21Lines_any A2 n2 c2 100 200 x2 _ (HK2.out.go (below_regrown W d os)) (by decide) (by decide)) HC.out
    have cD : ∀ (d' : Nat) (os : Array Obj), Calls Tryz.prog 55 #[.slice A4 n4 c4, .int .i64 200, .int .i64 1300] (grow (redrawn W d') os) (fun e w'' => e = .returned (.bool d) ∧ ∃ q : Regrown, w'' = grow (redrawn W q.d) q.os) := fun (d : Nat) (os : Array Obj) => same_regrown (w := W) (d := d) (os := os) (l21Lines_any A4 n4 c4 200 1300 x4 _ (HK4.out.go (below_regrown W d os)) (by decide) (by decide)) HD.out
    have cB := fun (d : Nat) (os : Array Obj) => same_regrown (w := W) (d := d) (os := os) (l00In_any x1 0 (n0 : Int) _) HB.out
    refine wp_region_quiet_below (by kernel_rfl) (by kernel_rfl) ?_
    repeat (first | go_big_quiet_step (first | with_reducible exact cA _ _ | with_reducible exact cB _ _ | with_reducible exact cC _ _ | with_reducible exact cD _ _) | quiet_step (first | with_reducible exact cA _ _ | with_reducible exact cB _ _ | with_reducible exact cC _ _ | with_reducible exact cD _ _))
    refine wpQuiet_nil ?_
    intro w1 hw'
    obtain ⟨⟨dq, osq⟩, hw''⟩ := hw'
    have hb1 : Below W.heap.size W w1 := by rw [hw'']; exact below_regrown W dq osq
    have HB1 := Lib.hid hb1
    have HR1 : Hid (RW 32 w1 g #[.slice A0 n0 c0, .int .i64 x1, .slice A2 n2 c2, .slice A3 n3 c3, .slice A4 n4 c4] ∧ Below W.heap.size W w1) := ⟨HRW.out.below hb1 HRW.out.lt, hb1⟩
    clear hw'' z0 z1 z2 z3 z4 cA cB cC cD hb1
    go_wp2_with fail
    go_ret
    exact ⟨rfl, HB1.out⟩
  cases b
  · skip
    go_enter Tryz.func22, Tryz.ntmps22
    go_wp2_with fail
    have z0 := cell_regrown (HRW.out.cell 0)
    have z1 := cell_regrown (HRW.out.cell 1)
    have z2 := cell_regrown (HRW.out.cell 2)
    have z3 := cell_regrown (HRW.out.cell 3)
    have z4 := cell_regrown (HRW.out.cell 4)
    have cA : ∀ (d' : Nat) (os : Array Obj), Calls Tryz.prog 55 #[.slice A0 n0 c0, .int .i64 100, .int .i64 200] (grow (redrawn W d') os) (fun e w'' => e = .returned (.bool true) ∧ ∃ q : Regrown, w'' = grow (redrawn W q.d) q.os) := fun (d : Nat) (os : Array Obj) => same_regrown (w := W) (d := d) (os := os) (l21Lines_any A0 n0 c0 100 200 x0 _ (HK0.out.go (below_regrown W d os)) (by decide) (by decide)) HA.out
    have cC : ∀ (d' : Nat) (os : Array Obj), Calls Tryz.prog 55 #[.slice A2 n2 c2, .int .i64 100, .int .i64 200] (grow (redrawn W d') os) (fun e w'' => e = .returned (.bool c) ∧ ∃ q : Regrown, w'' = grow (redrawn W q.d) q.os) := fun (d : Nat) (os : Array Obj) => same_regrown (w := W) (d := d) (os := os) (l21Lines_any A2 n2 c2 100 200 x2 _ (HK2.out.go (below_regrown W d os)) (by decide) (by decide)) HC.out
    have cD : ∀ (d' : Nat) (os : Array Obj), Calls Tryz.prog 55 #[.slice A4 n4 c4, .int .i64 200, .int .i64 1300] (grow (redrawn W d') os) (fun e w'' => e = .returned (.bool d) ∧ ∃ q : Regrown, w'' = grow (redrawn W q.d) q.os) := fun (d : Nat) (os : Array Obj) => same_regrown (w := W) (d := d) (os := os) (l21Lines_any A4 n4 c4 200 1300 x4 _ (HK4.out.go (below_regrown W d os)) (by decide) (by decide)) HD.out
    have cB := fun (d : Nat) (os : Array Obj) => same_regrown (w := W) (d := d) (os := os) (l00In_any x1 0 (n0 : Int) _) HB.out
    refine wp_region_quiet_below (by kernel_rfl) (by kernel_rfl) ?_
    repeat (first | go_big_quiet_step (first | with_reducible exact cA _ _ | with_reducible exact cB _ _ | with_reducible exact cC _ _ | with_reducible exact cD _ _) | quiet_step (first | with_reducible exact cA _ _ | with_reducible exact cB _ _ | with_reducible exact cC _ _ | with_reducible exact cD _ _))
    refine wpQuiet_nil ?_
    intro w1 hw'
    obtain ⟨⟨dq, osq⟩, hw''⟩ := hw'
    have hb1 : Below W.heap.size W w1 := by rw [hw'']; exact below_regrown W dq osq
    have HB1 := Lib.hid hb1
    have HR1 : Hid (RW 32 w1 g #[.slice A0 n0 c0, .int .i64 x1, .slice A2 n2 c2, .slice A3 n3 c3, .slice A4 n4 c4] ∧ Below W.heap.size W w1) := ⟨HRW.out.below hb1 HRW.out.lt, hb1⟩
    clear hw'' z0 z1 z2 z3 z4 cA cB cC cD hb1
    go_wp2_with fail
    go_ret
    exact ⟨rfl, HB1.out⟩
  cases c
  · skip
    go_enter Tryz.func22, Tryz.ntmps22
    go_wp2_with fail
    have z0 := cell_regrown (HRW.out.cell 0)
    have z1 := cell_regrown (HRW.out.cell 1)
    have z2 := cell_regrown (HRW.out.cell 2)
    have z3 := cell_regrown (HRW.out.cell 3)
    have z4 := cell_regrown (HRW.out.cell 4)
    have cA : ∀ (d' : Nat) (os : Array Obj), Calls Tryz.prog 55 #[.slice A0 n0 c0, .int .i64 100, .int .i64 200] (grow (redrawn W d') os) (fun e w'' => e = .returned (.bool true) ∧ ∃ q : Regrown, w'' = grow (redrawn W q.d) q.os) := fun (d : Nat) (os : Array Obj) => same_regrown (w := W) (d := d) (os := os) (l21Lines_any A0 n0 c0 100 200 x0 _ (HK0.out.go (below_regrown W d os)) (by decide) (by decide)) HA.out
    have cC : ∀ (d' : Nat) (os : Array Obj), Calls Tryz.prog 55 #[.slice A2 n2 c2, .int .i64 100, .int .i64 200] (grow (redrawn W d') os) (fun e w'' => e = .returned (.bool false) ∧ ∃ q : Regrown, w'' = grow (redrawn W q.d) q.os) := fun (d : Nat) (os : Array Obj) => same_regrown (w := W) (d := d) (os := os) (l21Lines_any A2 n2 c2 100 200 x2 _ (HK2.out.go (below_regrown W d os)) (by decide) (by decide)) HC.out
    have cD : ∀ (d' : Nat) (os : Array Obj), Calls Tryz.prog 55 #[.slice A4 n4 c4, .int .i64 200, .int .i64 1300] (grow (redrawn W d') os) (fun e w'' => e = .returned (.bool d) ∧ ∃ q : Regrown, w'' = grow (redrawn W q.d) q.os) := fun (d : Nat) (os : Array Obj) => same_regrown (w := W) (d := d) (os := os) (l21Lines_any A4 n4 c4 200 1300 x4 _ (HK4.out.go (below_regrown W d os)) (by decide) (by decide)) HD.out
    have cB := fun (d : Nat) (os : Array Obj) => same_regrown (w := W) (d := d) (os := os) (l00In_any x1 0 (n0 : Int) _) HB.out
    refine wp_region_quiet_below (by kernel_rfl) (by kernel_rfl) ?_
    repeat (first | go_big_quiet_step (first | with_reducible exact cA _ _ | with_reducible exact cB _ _ | with_reducible exact cC _ _ | with_reducible exact cD _ _) | quiet_step (first | with_reducible exact cA _ _ | with_reducible exact cB _ _ | with_reducible exact cC _ _ | with_reducible exact cD _ _))
    refine wpQuiet_nil ?_
    intro w1 hw'
    obtain ⟨⟨dq, osq⟩, hw''⟩ := hw'
    have hb1 : Below W.heap.size W w1 := by rw [hw'']; exact below_regrown W dq osq
    have HB1 := Lib.hid hb1
    have HR1 : Hid (RW 32 w1 g #[.slice A0 n0 c0, .int .i64 x1, .slice A2 n2 c2, .slice A3 n3 c3, .slice A4 n4 c4] ∧ Below W.heap.size W w1) := ⟨HRW.out.below hb1 HRW.out.lt, hb1⟩
    clear hw'' z0 z1 z2 z3 z4 cA cB cC cD hb1
    go_wp2_with fail
    go_ret
    exact ⟨rfl, HB1.out⟩
  by_cases hn6 : n3 ≤ 6
  case neg =>
    have HF : Hid (P = false) := HNO.out fun h => by have := h.1; have := HLL.out; omega
    have e6 : (6 : Int) < (n3 : Int) := by omega
    rw [HF.out]
    cases d
    · skip
      go_enter Tryz.func22, Tryz.ntmps22
      go_wp2_with fail
      have z0 := cell_regrown (HRW.out.cell 0)
      have z1 := cell_regrown (HRW.out.cell 1)
      have z2 := cell_regrown (HRW.out.cell 2)
      have z3 := cell_regrown (HRW.out.cell 3)
      have z4 := cell_regrown (HRW.out.cell 4)
      have cA : ∀ (d' : Nat) (os : Array Obj), Calls Tryz.prog 55 #[.slice A0 n0 c0, .int .i64 100, .int .i64 200] (grow (redrawn W d') os) (fun e w'' => e = .returned (.bool true) ∧ ∃ q : Regrown, w'' = grow (redrawn W q.d) q.os) := fun (d : Nat) (os : Array Obj) => same_regrown (w := W) (d := d) (os := os) (l21Lines_any A0 n0 c0 100 200 x0 _ (HK0.out.go (below_regrown W d os)) (by decide) (by decide)) HA.out
      have cC : ∀ (d' : Nat) (os : Array Obj), Calls Tryz.prog 55 #[.slice A2 n2 c2, .int .i64 100, .int .i64 200] (grow (redrawn W d') os) (fun e w'' => e = .returned (.bool true) ∧ ∃ q : Regrown, w'' = grow (redrawn W q.d) q.os) := fun (d : Nat) (os : Array Obj) => same_regrown (w := W) (d := d) (os := os) (l21Lines_any A2 n2 c2 100 200 x2 _ (HK2.out.go (below_regrown W d os)) (by decide) (by decide)) HC.out
      have cD : ∀ (d' : Nat) (os : Array Obj), Calls Tryz.prog 55 #[.slice A4 n4 c4, .int .i64 200, .int .i64 1300] (grow (redrawn W d') os) (fun e w'' => e = .returned (.bool false) ∧ ∃ q : Regrown, w'' = grow (redrawn W q.d) q.os) := fun (d : Nat) (os : Array Obj) => same_regrown (w := W) (d := d) (os := os) (l21Lines_any A4 n4 c4 200 1300 x4 _ (HK4.out.go (below_regrown W d os)) (by decide) (by decide)) HD.out
      have cB := fun (d : Nat) (os : Array Obj) => same_regrown (w := W) (d := d) (os := os) (l00In_any x1 0 (n0 : Int) _) HB.out
      refine wp_region_quiet_below (by kernel_rfl) (by kernel_rfl) ?_
      repeat (first | go_big_quiet_step (first | with_reducible exact cA _ _ | with_reducible exact cB _ _ | with_reducible exact cC _ _ | with_reducible exact cD _ _) | quiet_step (first | with_reducible exact cA _ _ | with_reducible exact cB _ _ | with_reducible exact cC _ _ | with_reducible exact cD _ _))
      refine wpQuiet_nil ?_
      intro w1 hw'
      obtain ⟨⟨dq, osq⟩, hw''⟩ := hw'
      have hb1 : Below W.heap.size W w1 := by rw [hw'']; exact below_regrown W dq osq
      have HB1 := Lib.hid hb1
      have HR1 : Hid (RW 32 w1 g #[.slice A0 n0 c0, .int .i64 x1, .slice A2 n2 c2, .slice A3 n3 c3, .slice A4 n4 c4] ∧ Below W.heap.size W w1) := ⟨HRW.out.below hb1 HRW.out.lt, hb1⟩
      clear hw'' z0 z1 z2 z3 z4 cA cB cC cD hb1
      go_wp2_with fail
      go_ret
      exact ⟨rfl, HB1.out⟩
    · skip
      go_enter Tryz.func22, Tryz.ntmps22
      go_wp2_with fail
      have z0 := cell_regrown (HRW.out.cell 0)
      have z1 := cell_regrown (HRW.out.cell 1)
      have z2 := cell_regrown (HRW.out.cell 2)
      have z3 := cell_regrown (HRW.out.cell 3)
      have z4 := cell_regrown (HRW.out.cell 4)
      have cA : ∀ (d' : Nat) (os : Array Obj), Calls Tryz.prog 55 #[.slice A0 n0 c0, .int .i64 100, .int .i64 200] (grow (redrawn W d') os) (fun e w'' => e = .returned (.bool true) ∧ ∃ q : Regrown, w'' = grow (redrawn W q.d) q.os) := fun (d : Nat) (os : Array Obj) => same_regrown (w := W) (d := d) (os := os) (l21Lines_any A0 n0 c0 100 200 x0 _ (HK0.out.go (below_regrown W d os)) (by decide) (by decide)) HA.out
      have cC : ∀ (d' : Nat) (os : Array Obj), Calls Tryz.prog 55 #[.slice A2 n2 c2, .int .i64 100, .int .i64 200] (grow (redrawn W d') os) (fun e w'' => e = .returned (.bool true) ∧ ∃ q : Regrown, w'' = grow (redrawn W q.d) q.os) := fun (d : Nat) (os : Array Obj) => same_regrown (w := W) (d := d) (os := os) (l21Lines_any A2 n2 c2 100 200 x2 _ (HK2.out.go (below_regrown W d os)) (by decide) (by decide)) HC.out
      have cD : ∀ (d' : Nat) (os : Array Obj), Calls Tryz.prog 55 #[.slice A4 n4 c4, .int .i64 200, .int .i64 1300] (grow (redrawn W d') os) (fun e w'' => e = .returned (.bool true) ∧ ∃ q : Regrown, w'' = grow (redrawn W q.d) q.os) := fun (d : Nat) (os : Array Obj) => same_regrown (w := W) (d := d) (os := os) (l21Lines_any A4 n4 c4 200 1300 x4 _ (HK4.out.go (below_regrown W d os)) (by decide) (by decide)) HD.out
      have cB := fun (d : Nat) (os : Array Obj) => same_regrown (w := W) (d := d) (os := os) (l00In_any x1 0 (n0 : Int) _) HB.out
      refine wp_region_quiet_below (by kernel_rfl) (by kernel_rfl) ?_
      repeat (first | go_big_quiet_step (first | with_reducible exact cA _ _ | with_reducible exact cB _ _ | with_reducible exact cC _ _ | with_reducible exact cD _ _) | quiet_step (first | with_reducible exact cA _ _ | with_reducible exact cB _ _ | with_reducible exact cC _ _ | with_reducible exact cD _ _))
      refine wpQuiet_nil ?_
      intro w1 hw'
      obtain ⟨⟨dq, osq⟩, hw''⟩ := hw'
      have hb1 : Below W.heap.size W w1 := by rw [hw'']; exact below_regrown W dq osq
      have HB1 := Lib.hid hb1
      have HR1 : Hid (RW 32 w1 g #[.slice A0 n0 c0, .int .i64 x1, .slice A2 n2 c2, .slice A3 n3 c3, .slice A4 n4 c4] ∧ Below W.heap.size W w1) := ⟨HRW.out.below hb1 HRW.out.lt, hb1⟩
      clear hw'' z0 z1 z2 z3 z4 cA cB cC cD hb1
      go_wp2_with fail
      go_ret
      exact ⟨rfl, HB1.out⟩
  have e6 : ¬ (6 : Int) < (n3 : Int) := by omega
  have HN6 := Lib.hid hn6
  clear hn6
  cases d
  · skip
    go_enter Tryz.func22, Tryz.ntmps22
    go_wp2_with fail
    have z0 := cell_regrown (HRW.out.cell 0)
    have z1 := cell_regrown (HRW.out.cell 1)
    have z2 := cell_regrown (HRW.out.cell 2)
    have z3 := cell_regrown (HRW.out.cell 3)
    have z4 := cell_regrown (HRW.out.cell 4)
    have cA : ∀ (d' : Nat) (os : Array Obj), Calls Tryz.prog 55 #[.slice A0 n0 c0, .int .i64 100, .int .i64 200] (grow (redrawn W d') os) (fun e w'' => e = .returned (.bool true) ∧ ∃ q : Regrown, w'' = grow (redrawn W q.d) q.os) := fun (d : Nat) (os : Array Obj) => same_regrown (w := W) (d := d) (os := os) (l21Lines_any A0 n0 c0 100 200 x0 _ (HK0.out.go (below_regrown W d os)) (by decide) (by decide)) HA.out
    have cC : ∀ (d' : Nat) (os : Array Obj), Calls Tryz.prog 55 #[.slice A2 n2 c2, .int .i64 100, .int .i64 200] (grow (redrawn W d') os) (fun e w'' => e = .returned (.bool true) ∧ ∃ q : Regrown, w'' = grow (redrawn W q.d) q.os) := fun (d : Nat) (os : Array Obj) => same_regrown (w := W) (d := d) (os := os) (l21Lines_any A2 n2 c2 100 200 x2 _ (HK2.out.go (below_regrown W d os)) (by decide) (by decide)) HC.out
    have cD : ∀ (d' : Nat) (os : Array Obj), Calls Tryz.prog 55 #[.slice A4 n4 c4, .int .i64 200, .int .i64 1300] (grow (redrawn W d') os) (fun e w'' => e = .returned (.bool false) ∧ ∃ q : Regrown, w'' = grow (redrawn W q.d) q.os) := fun (d : Nat) (os : Array Obj) => same_regrown (w := W) (d := d) (os := os) (l21Lines_any A4 n4 c4 200 1300 x4 _ (HK4.out.go (below_regrown W d os)) (by decide) (by decide)) HD.out
    have cB := fun (d : Nat) (os : Array Obj) => same_regrown (w := W) (d := d) (os := os) (l00In_any x1 0 (n0 : Int) _) HB.out
    refine wp_region_quiet_below (by kernel_rfl) (by kernel_rfl) ?_
    repeat (first | go_big_quiet_step (first | with_reducible exact cA _ _ | with_reducible exact cB _ _ | with_reducible exact cC _ _ | with_reducible exact cD _ _) | quiet_step (first | with_reducible exact cA _ _ | with_reducible exact cB _ _ | with_reducible exact cC _ _ | with_reducible exact cD _ _))
    refine wpQuiet_nil ?_
    intro w1 hw'
    obtain ⟨⟨dq, osq⟩, hw''⟩ := hw'
    have hb1 : Below W.heap.size W w1 := by rw [hw'']; exact below_regrown W dq osq
    have HB1 := Lib.hid hb1
    have HR1 : Hid (RW 32 w1 g #[.slice A0 n0 c0, .int .i64 x1, .slice A2 n2 c2, .slice A3 n3 c3, .slice A4 n4 c4] ∧ Below W.heap.size W w1) := ⟨HRW.out.below hb1 HRW.out.lt, hb1⟩
    clear hw'' z0 z1 z2 z3 z4 cA cB cC cD hb1
    go_wp2_with fail
    go_ret
    exact ⟨rfl, HB1.out⟩
  go_enter Tryz.func22, Tryz.ntmps22
  go_wp2_with fail
  have z0 := cell_regrown (HRW.out.cell 0)
  have z1 := cell_regrown (HRW.out.cell 1)
  have z2 := cell_regrown (HRW.out.cell 2)
  have z3 := cell_regrown (HRW.out.cell 3)
  have z4 := cell_regrown (HRW.out.cell 4)
  have cA : ∀ (d' : Nat) (os : Array Obj), Calls Tryz.prog 55 #[.slice A0 n0 c0, .int .i64 100, .int .i64 200] (grow (redrawn W d') os) (fun e w'' => e = .returned (.bool true) ∧ ∃ q : Regrown, w'' = grow (redrawn W q.d) q.os) := fun (d : Nat) (os : Array Obj) => same_regrown (w := W) (d := d) (os := os) (l21Lines_any A0 n0 c0 100 200 x0 _ (HK0.out.go (below_regrown W d os)) (by decide) (by decide)) HA.out
  have cC : ∀ (d' : Nat) (os : Array Obj), Calls Tryz.prog 55 #[.slice A2 n2 c2, .int .i64 100, .int .i64 200] (grow (redrawn W d') os) (fun e w'' => e = .returned (.bool true) ∧ ∃ q : Regrown, w'' = grow (redrawn W q.d) q.os) := fun (d : Nat) (os : Array Obj) => same_regrown (w := W) (d := d) (os := os) (l21Lines_any A2 n2 c2 100 200 x2 _ (HK2.out.go (below_regrown W d os)) (by decide) (by decide)) HC.out
  have cD : ∀ (d' : Nat) (os : Array Obj), Calls Tryz.prog 55 #[.slice A4 n4 c4, .int .i64 200, .int .i64 1300] (grow (redrawn W d') os) (fun e w'' => e = .returned (.bool true) ∧ ∃ q : Regrown, w'' = grow (redrawn W q.d) q.os) := fun (d : Nat) (os : Array Obj) => same_regrown (w := W) (d := d) (os := os) (l21Lines_any A4 n4 c4 200 1300 x4 _ (HK4.out.go (below_regrown W d os)) (by decide) (by decide)) HD.out
  have cB := fun (d : Nat) (os : Array Obj) => same_regrown (w := W) (d := d) (os := os) (l00In_any x1 0 (n0 : Int) _) HB.out
  refine wp_region_quiet_below (by kernel_rfl) (by kernel_rfl) ?_
  repeat (first | go_big_quiet_step (first | with_reducible exact cA _ _ | with_reducible exact cB _ _ | with_reducible exact cC _ _ | with_reducible exact cD _ _) | quiet_step (first | with_reducible exact cA _ _ | with_reducible exact cB _ _ | with_reducible exact cC _ _ | with_reducible exact cD _ _))
  refine wpQuiet_nil ?_
  intro w1 hw'
  obtain ⟨⟨dq, osq⟩, hw''⟩ := hw'
  have hb1 : Below W.heap.size W w1 := by rw [hw'']; exact below_regrown W dq osq
  have HB1 := Lib.hid hb1
  have HR1 : Hid (RW 32 w1 g #[.slice A0 n0 c0, .int .i64 x1, .slice A2 n2 c2, .slice A3 n3 c3, .slice A4 n4 c4] ∧ Below W.heap.size W w1) := ⟨HRW.out.below hb1 HRW.out.lt, hb1⟩
  clear hw'' z0 z1 z2 z3 z4 cA cB cC cD hb1
  have s3 : w1.cell? ⟨g, 3, none⟩ = some (.slice A3 n3 c3) := HR1.out.1.cell 3
  go_wp2_with fail
  go_loopw [3] (fun i wr => ∃ k : Nat, k ≤ n3 ∧ i = .int .i64 k ∧ wr.cell? ⟨g, 3, none⟩ = some (.slice A3 n3 c3) ∧ Hid (RW 32 wr g #[.slice A0 n0 c0, .int .i64 x1, .slice A2 n2 c2, .slice A3 n3 c3, .slice A4 n4 c4] ∧ Below W.heap.size W wr) ∧ Hid (UpOk fileB Fl.name_ x3 k)) (fun i _ => n3 - (intOf i).toNat)
  case atStart => exact ⟨0, Nat.zero_le _, rfl, s3, HR1, Lib.hid UpOk.zero⟩
  case round =>
    obtain ⟨k, hk, rfl, s3, HB, HV⟩ := hrel
    by_cases hlt : k < n3
    · have b0 : (0 : Int) ≤ (k : Int) := by omega
      have b1 : (k : Int) < (n3 : Int) := by omega
      obtain ⟨b, off, x, l, rfl, hgb, hx, ⟨q0, q1, q2, q3⟩, hv⟩ := (HK3.out.go HB.out.2).at_ hlt
      have HX := Lib.hid hx
      have HGB : Hid (b < wr.heap.size) := hgb
      have HEL := Lib.hid (fun (w : World) (hb : Below wr.heap.size wr w) => l21File_any x l w (hv.go hb))
      obtain ⟨u0, u1, u2, u3⟩ := x
      obtain ⟨a1, s1, d1', e1⟩ := l
      dsimp only at q0 q1 q2 q3
      obtain ⟨z0, hz0⟩ : ∃ z, fileB ⟨u0, u1, u2, u3⟩ = z := ⟨_, rfl⟩
      have HZ := Lib.hid hz0
      clear hx hgb hv hz0

      cases z0
      case false =>
        have HF : Hid (P = false) := HNO.out (not_ok HX.out HZ.out)
        go_wp2_with fail
        have x0' := cell_regrown q0
        have x1' := cell_regrown q1
        have x2' := cell_regrown q2
        have x3' := cell_regrown q3
        have xs := cell_regrown s3
        have cA : ∀ d os', Calls Tryz.prog 56 #[.agg #[.string u0, .slice a1 s1 d1', .int .i64 u2, .int .i64 u3]] (grow (redrawn wr d) os') (fun e w'' => e = .returned (.bool false) ∧ ∃ q : Regrown, w'' = grow (redrawn wr q.d) q.os) := fun d os' => Calls.regrown_of (by have h := HEL.out _ (below_regrown wr d os'); rw [HZ.out] at h; exact h)
        clear q0 q1 q2 q3
        refine wp_region_quiet_below (by kernel_rfl) (by kernel_rfl) ?_
        repeat (first | go_big_quiet_step (with_reducible exact cA _ _) | quiet_step (with_reducible exact cA _ _))
        refine wpQuiet_nil ?_
        intro w4 hw'
        obtain ⟨⟨dq, osq⟩, hw''⟩ := hw'
        have HB4 : Hid (RW 32 w4 g #[.slice A0 n0 c0, .int .i64 x1, .slice A2 n2 c2, .slice (some ⟨b, off, none⟩) n3 c3, .slice A4 n4 c4] ∧ Below W.heap.size W w4) := by show _ ∧ _; rw [hw'']; exact ⟨HB.out.1.below (below_regrown wr dq osq) HB.out.1.lt, HB.out.2.trans ((below_regrown wr dq osq).mono HB.out.2.size)⟩
        clear hw'' x0' x1' x2' x3' xs cA s3
        go_wp2_with fail
        go_ret
        exact ⟨by rw [HF.out]; rfl, HB4.out.2⟩
      have HOK : Hid (fileB ⟨u0, u1, u2, u3⟩ = true) := HZ.out
      by_cases hkp : k = 0
      · subst hkp
        have HV2 := Lib.hid (UpOk.first (nm := Fl.name_) HX.out HOK.out)
        simp only [Nat.zero_mul, Nat.add_zero] at q0 q1 q2 q3
        go_wp2_with fail
        have x0' := cell_regrown q0
        have x1' := cell_regrown q1
        have x2' := cell_regrown q2
        have x3' := cell_regrown q3
        have xs := cell_regrown s3
        have cA : ∀ d os', Calls Tryz.prog 56 #[.agg #[.string u0, .slice a1 s1 d1', .int .i64 u2, .int .i64 u3]] (grow (redrawn wr d) os') (fun e w'' => e = .returned (.bool true) ∧ ∃ q : Regrown, w'' = grow (redrawn wr q.d) q.os) := fun d os' => Calls.regrown_of (by have h := HEL.out _ (below_regrown wr d os'); rw [HZ.out] at h; exact h)
        clear q0 q1 q2 q3
        refine wp_region_quiet_below (by kernel_rfl) (by kernel_rfl) ?_
        repeat (first | go_big_quiet_step (with_reducible exact cA _ _) | quiet_step (with_reducible exact cA _ _))
        refine wpQuiet_nil ?_
        intro w4 hw'
        obtain ⟨⟨dq, osq⟩, hw''⟩ := hw'
        have HB4 : Hid (RW 32 w4 g #[.slice A0 n0 c0, .int .i64 x1, .slice A2 n2 c2, .slice (some ⟨b, off, none⟩) n3 c3, .slice A4 n4 c4] ∧ Below W.heap.size W w4) := by show _ ∧ _; rw [hw'']; exact ⟨HB.out.1.below (below_regrown wr dq osq) HB.out.1.lt, HB.out.2.trans ((below_regrown wr dq osq).mono HB.out.2.size)⟩
        clear hw'' x0' x1' x2' x3' xs cA s3
        go_wp2_with fail
        go_roundw
        case rel => exact ⟨0 + 1, by omega, by go_num, HB4.out.1.cell 3, HB4, HV2⟩
        case measure => simp [intOf]; omega
      obtain ⟨j, hj⟩ : ∃ j, k = j + 1 := ⟨k - 1, by omega⟩
      have hj1 : (k : Int) - 1 = (j : Int) := by omega
      have hkp2 : (0 : Int) < (k : Int) := by omega
      have hkp3 : decide ((0 : Int) < (k : Int)) = true := by simp; omega
      have hkp4 : decide (0 < k) = true := by simp; omega
      have hkp5 : 0 < k := by omega
      have e0 : (0 : Int) ≤ (j : Int) := by omega
      have e1' : (j : Int) < (n3 : Int) := by omega
      obtain ⟨b', off', y, l', hA', hg', hy, ⟨r0, r1, r2, r3⟩, _⟩ := (HK3.out.go HB.out.2).at_ (show j < n3 by omega)
      simp only [Option.some.injEq, Addr.mk.injEq, and_true] at hA'
      obtain ⟨rfl, rfl⟩ := hA'
      have HY : Hid (x3[k - 1]? = some y) := by show _ = _; rw [show k - 1 = j by omega]; exact hy
      clear hj hkp hg' hy r1 r2 r3
      obtain ⟨R, hRR⟩ : ∃ z, Op.bytesLess y.name_.toList u0.toList = z := ⟨_, rfl⟩
      have HRR := Lib.hid hRR
      cases R
      · have HF : Hid (P = false) := HNO.out (not_up hkp5 HX.out HY.out HRR.out)
        go_wp2_with fail
        have x0' := cell_regrown q0
        have x1' := cell_regrown q1
        have x2' := cell_regrown q2
        have x3' := cell_regrown q3
        have xs := cell_regrown s3
        have y0 := cell_regrown r0
        have cA : ∀ d os', Calls Tryz.prog 56 #[.agg #[.string u0, .slice a1 s1 d1', .int .i64 u2, .int .i64 u3]] (grow (redrawn wr d) os') (fun e w'' => e = .returned (.bool true) ∧ ∃ q : Regrown, w'' = grow (redrawn wr q.d) q.os) := fun d os' => Calls.regrown_of (by have h := HEL.out _ (below_regrown wr d os'); rw [HZ.out] at h; exact h)
        clear q0 q1 q2 q3 r0
        refine wp_region_quiet_below (by kernel_rfl) (by kernel_rfl) ?_
        repeat (first | go_big_quiet_step (with_reducible exact cA _ _) | quiet_step (with_reducible exact cA _ _))
        refine wpQuiet_nil ?_
        intro w4 hw'
        obtain ⟨⟨dq, osq⟩, hw''⟩ := hw'
        have HB4 : Hid (RW 32 w4 g #[.slice A0 n0 c0, .int .i64 x1, .slice A2 n2 c2, .slice (some ⟨b, off, none⟩) n3 c3, .slice A4 n4 c4] ∧ Below W.heap.size W w4) := by show _ ∧ _; rw [hw'']; exact ⟨HB.out.1.below (below_regrown wr dq osq) HB.out.1.lt, HB.out.2.trans ((below_regrown wr dq osq).mono HB.out.2.size)⟩
        clear hw'' x0' x1' x2' x3' xs cA y0 s3
        go_wp2_with fail
        go_ret
        exact ⟨by rw [HF.out]; rfl, HB4.out.2⟩
      · have HV2 := Lib.hid (UpOk.next HV.out HX.out HOK.out HY.out HRR.out)
        go_wp2_with fail
        have x0' := cell_regrown q0
        have x1' := cell_regrown q1
        have x2' := cell_regrown q2
        have x3' := cell_regrown q3
        have xs := cell_regrown s3
        have y0 := cell_regrown r0
        have cA : ∀ d os', Calls Tryz.prog 56 #[.agg #[.string u0, .slice a1 s1 d1', .int .i64 u2, .int .i64 u3]] (grow (redrawn wr d) os') (fun e w'' => e = .returned (.bool true) ∧ ∃ q : Regrown, w'' = grow (redrawn wr q.d) q.os) := fun d os' => Calls.regrown_of (by have h := HEL.out _ (below_regrown wr d os'); rw [HZ.out] at h; exact h)
        clear q0 q1 q2 q3 r0
        refine wp_region_quiet_below (by kernel_rfl) (by kernel_rfl) ?_
        repeat (first | go_big_quiet_step (with_reducible exact cA _ _) | quiet_step (with_reducible exact cA _ _))
        refine wpQuiet_nil ?_
        intro w4 hw'
        obtain ⟨⟨dq, osq⟩, hw''⟩ := hw'
        have HB4 : Hid (RW 32 w4 g #[.slice A0 n0 c0, .int .i64 x1, .slice A2 n2 c2, .slice (some ⟨b, off, none⟩) n3 c3, .slice A4 n4 c4] ∧ Below W.heap.size W w4) := by show _ ∧ _; rw [hw'']; exact ⟨HB.out.1.below (below_regrown wr dq osq) HB.out.1.lt, HB.out.2.trans ((below_regrown wr dq osq).mono HB.out.2.size)⟩
        clear hw'' x0' x1' x2' x3' xs cA y0 s3
        go_wp2_with fail
        go_roundw
        case rel => exact ⟨k + 1, by omega, by go_num, HB4.out.1.cell 3, HB4, HV2⟩
        case measure => simp [intOf]; omega
    · have hkn : k = n3 := by omega
      have HT1 : Hid (P = true) := HYES.out (by
        refine ⟨by have := HLL.out; have := HN6.out; omega, ?_⟩
        rw [HLL.out, ← hkn]
        exact HV.out)
      have hnk : ¬ (k : Int) < (n3 : Int) := by omega
      clear HV hkn
      go_wp2_with fail
      go_ret
      exact ⟨by rw [HT1.out]; rfl, HB.out.2⟩

set_option maxHeartbeats 1000000 in
set_option maxRecDepth 100000 in
theorem spec_ValidConsole_any (x : Cn) (l : CnLay) (W : World) (hx : CnV W W.heap.size x l) :
    Calls Tryz.prog 39 #[x.ag l] W fun e w' => e = .returned (.bool (consoleB x)) ∧ Below W.heap.size W w' := by
  have HQ := Lib.hid (fun X (e : X = W.alloc (.cells (x.vs l).toArray 32)) => (show Calls Tryz.prog 22 #[.pointer (some ⟨W.heap.size, 0, none⟩)] X _ ∧ Below W.heap.size W X from ⟨l21Ok_any x l W.heap.size X (hx.go (one_new1 W _ _ X e).2.1) (one_new1 W _ _ X e).1, (one_new1 W _ _ X e).2.1⟩))
  obtain ⟨b, hb⟩ : ∃ z, consoleB x = z := ⟨_, rfl⟩
  have HB := Lib.hid hb
  rw [hb]
  clear hx hb
  obtain ⟨x0, x1, x2, x3, x4⟩ := x
  obtain ⟨A0, n0, c0, h0, A2, n2, c2, h2, A3, n3, c3, h3, A4, n4, c4, h4⟩ := l
  show Calls Tryz.prog 39 #[.agg #[.slice A0 n0 c0, .int .i64 x1, .slice A2 n2 c2, .slice A3 n3 c3, .slice A4 n4 c4]] W _
  go_enter Tryz.func39, Tryz.ntmps39
  go_wp2_with (go_at_call 22; obtain ⟨hq, g1⟩ := HQ.out _ rfl; refine Calls.mono hq ?_; clear hq; rintro e w2 ⟨rfl, hb⟩; rw [HB.out]; have HB2 := Lib.hid (g1.trans (hb.mono g1.size)); clear g1 hb)
  go_ret
  exact ⟨rfl, HB2.out⟩
end Go.Proofs.YtfcpdjfckeoniaaGreatDoor
