/- A map from numbers to pointers that the call makes: how it reads; the index of the first k objects. No condition. Contract: indexObjects of the program. Condition: the objects rise, their numbers are numbers of Go's, and they are few. Contract: (objectIndex).fits of the program. Condition: the index is the objects', they rise, the table holds what the program's text lays. Contract: (objectIndex).fitAll of the program. Condition: as for fits. -/
import Derived.Test.YtbdmanadmckjjaaDoorObUpTo
import Derived.Maps.OwnSet
import Derived.Maps.Views
import Derived.StillTailTactics
import Derived.Maps.RangeWalk
namespace Go.Proofs.YtbdmanadmckjjaaDoor
open Go Go.RowKit Go.Sort Go.Maps

/-- How a pointer reads as an element. -/
def ptrElem : Value → Option (DataW Unit × List MemPlace)
  | .pointer none => some (.nil, [])
  | .pointer (some ⟨b, o, none⟩) => some (.agg [.lit (.int .i64 (b : Int)), .lit (.int .i64 (o : Int))], [])
  | _ => none
theorem ptrElem_mk (b o : Nat) : ptrElem (.pointer (some ⟨b, o, none⟩)) = some (.agg [.lit (.int .i64 (b : Int)), .lit (.int .i64 (o : Int))], []) := rfl
theorem ptrElem_inv {v : Value} {b o : Nat} {ps : List MemPlace} (h : ptrElem v = some (.agg [.lit (.int .i64 (b : Int)), .lit (.int .i64 (o : Int))], ps)) : v = .pointer (some ⟨b, o, none⟩) := by
  unfold ptrElem at h
  split at h
  · simp at h
  · simp only [Option.some.injEq, Prod.mk.injEq, DataW.agg.injEq, List.cons.injEq, DataW.lit.injEq, Lit.int.injEq, and_true, true_and] at h
    obtain ⟨⟨h1, h2⟩, _⟩ := h
    have e1 := Int.ofNat.inj h1
    have e2 := Int.ofNat.inj h2
    rw [e1, e2]
  · cases h
/-- Block m is a map: the numbers of the first k objects, each with the place of its object (b, off). -/
def IdxM (w : World) (m b off : Nat) (os : List Ob) (k : Nat) : Prop :=
  ∃ D, w.ownsMap Tryd.prog 2 ptrElem m k D ∧ IsMap D ∧ (∀ id : Int, (∀ (j : Nat) (o : Ob), j < k → os[j]? = some o → o.id ≠ id) → has D (.int .i64 id) = false) ∧
    (∀ (j : Nat) (o : Ob), j < k → os[j]? = some o → has D (.int .i64 o.id) = true ∧ D.atKey (.int .i64 o.id) .nil = .agg [.lit (.int .i64 (b : Int)), .lit (.int .i64 ((off + j * 10 : Nat) : Int))])
theorem IdxM.made (w : World) (b off : Nat) (os : List Ob) : IdxM (w.alloc (.map #[] 0)) w.heap.size b off os 0 :=
  ⟨_, World.ownsMap_made w _ _ _, ⟨_, rfl⟩, fun _ _ => rfl, fun j o hj => absurd hj (by omega)⟩
theorem key_lit (id : Int) : WideAt.IsKeyLit (.int .i64 id) := by first | trivial | simp [WideAt.IsKeyLit] | exact Or.inl ⟨_, _, rfl⟩
theorem IdxM.below {w w' : World} {m b off k B : Nat} {os : List Ob} (h : IdxM w m b off os k) (hb : Below B w w') (hm : m < B) : IdxM w' m b off os k := by
  obtain ⟨D, ⟨es, clock, hg, r⟩, h2⟩ := h
  exact ⟨D, ⟨es, clock, (hb.block m hm).trans hg, r⟩, h2⟩
theorem int_law : Keyed Tryd.prog 2 := int_keyed Tryd.underlying2
theorem zeroP (w : World) : (zeroValue 82).run Tryd.prog w = .ok (.pointer none) w := by kernel_rfl
/-- 'm[o.id] = &list[k]' for the k-th object, whose number is new. -/
theorem IdxM.store {w : World} {m b off k : Nat} {os : List Ob} {o : Ob} (h : IdxM w m b off os k) (ho : os[k]? = some o) (hd : ∀ (j : Nat) (a : Ob), j < k → os[j]? = some a → a.id ≠ o.id) (hk : k < maxLen) (wf : (Lit.int .i64 o.id).wf = true) :
    ∃ w', (Instr.mapUpdate 70 (.map (some m)) (.int .i64 o.id) (.pointer (some ⟨b, off + k * 10, none⟩))).run Tryd.prog w = .ok () w' ∧ IdxM w' m b off os (k + 1) ∧ w.grownBy w' (some m) := by
  obtain ⟨D, hown, hD, hno, hyes⟩ := h
  obtain ⟨w', hrun, hown', hg⟩ := hown.update (t := 70) (e := 82) int_law Tryd.underlying70 hk (keyOf_int_mk Tryd.underlying2 wf) (ptrElem_mk b (off + k * 10))
  refine ⟨w', hrun, ⟨_, hown', hown'.isMap, fun id hid => ?_, fun j a hj ha => ?_⟩, hg⟩
  · have hne : id ≠ o.id := fun e => hid k o (by omega) ho e.symm
    rw [has_put_other (by intro e; exact hne (by simpa using e))]
    exact hno id fun j a hj ha => hid j a (by omega) ha
  · by_cases e : j = k
    · subst e
      rw [ho, Option.some.injEq] at ha
      subst ha
      exact ⟨has_put_same hD (key_lit _) _, atKey_put_same hD (key_lit _) _ _⟩
    · have hne : a.id ≠ o.id := hd j a (by omega) ha
      have := hyes j a (by omega) ha
      rw [has_put_other (by intro e; exact hne (by simpa using e)), atKey_put_other (by intro e; exact hne (by simpa using e))]
      exact this
/-- 'v, ok := m[id]'. -/
theorem IdxM.look {w : World} {m b off k : Nat} {os : List Ob} (h : IdxM w m b off os k) (id : Int) (wf : (Lit.int .i64 id).wf = true) :
    (∃ (j : Nat) (o : Ob), j < k ∧ os[j]? = some o ∧ o.id = id ∧ (Instr.lookup 70 (.map (some m)) (.int .i64 id) true).run Tryd.prog w = .ok (.tuple #[.pointer (some ⟨b, off + j * 10, none⟩), .bool true]) w) ∨
    ((∀ (j : Nat) (o : Ob), j < k → os[j]? = some o → o.id ≠ id) ∧ ∃ v, (Instr.lookup 70 (.map (some m)) (.int .i64 id) true).run Tryd.prog w = .ok (.tuple #[v, .bool false]) w) := by
  obtain ⟨D, hown, hD, hno, hyes⟩ := h
  obtain ⟨v, ps, hrun, hv⟩ := hown.look_ok (t := 70) (e := 82) int_law Tryd.underlying70 (zeroP w) (zd := .nil) (zp := []) rfl (keyOf_int_mk Tryd.underlying2 wf)
  by_cases hex : ∃ (j : Nat) (o : Ob), j < k ∧ os[j]? = some o ∧ o.id = id
  · obtain ⟨j, o, hj, ho, rfl⟩ := hex
    obtain ⟨h1, h2⟩ := hyes j o hj ho
    rw [h1] at hrun
    rw [h2] at hv
    rw [ptrElem_inv hv] at hrun
    exact .inl ⟨j, o, hj, ho, rfl, hrun⟩
  · have hn : ∀ (j : Nat) (o : Ob), j < k → os[j]? = some o → o.id ≠ id := fun j o hj ho e => hex ⟨j, o, hj, ho, e⟩
    rw [hno id hn] at hrun
    exact .inr ⟨hn, v, hrun⟩

/-- 'm[list[k].Id] = &list[k]' AT THE OPERATION. -/
theorem wpList_idx_store {w : World} {ops : Array Oper} {rest : List Oper} {op : Oper} {a : Act} {Q : Exit → Act → World → Prop} (hg : op.guard = none) (mm x v : Operand) (hop : op.op = Op.mapUpdate 70 mm x v)
    (m b off k : Nat) (os : List Ob) (o : Ob) (h : IdxM w m b off os k) (ho : os[k]? = some o) (hd : ∀ (j : Nat) (a : Ob), j < k → os[j]? = some a → a.id ≠ o.id) (hk : k < maxLen) (wf : (Lit.int .i64 o.id).wf = true)
    (hm : a.eval mm = .map (some m)) (hx : a.eval x = .int .i64 o.id) (hv : a.eval v = .pointer (some ⟨b, off + k * 10, none⟩))
    (hK : ∀ w', IdxM w' m b off os (k + 1) → w.grownBy w' (some m) → wpList Tryd.prog ops Q rest (a.put op.dst undef) w') : wpList Tryd.prog ops Q (op :: rest) a w := by
  refine wpList_plain hg fun K' hK' => ?_
  obtain ⟨w', hrun, r1, r2⟩ := h.store ho hd hk wf
  unfold Oper.wp
  simp [execOp, hop, hm, hx, hv, hrun, Result.andThen]
  exact hK' _ _ (hK w' r1 r2)

set_option maxHeartbeats 2000000 in
set_option maxRecDepth 100000 in
theorem indexObjects_any (nx : Int) (b off n c : Nat) (os : List Ob) (W : World) (hr : OI W W.heap.size (some ⟨b, off, none⟩) n os) (hri : Rising os) (hwf : ∀ (j : Nat) (o : Ob), os[j]? = some o → (Lit.int .i64 o.id).wf = true) (hn : n ≤ 40) :
    Calls Tryd.prog 64 #[.agg #[.int .i64 nx, .slice (some ⟨b, off, none⟩) n c]] W fun e w' => ∃ m, e = .returned (.map (some m)) ∧ Hid (IdxM w' m b off os n ∧ m < w'.heap.size) ∧ Below W.heap.size W w' := by
  have HR := Lib.hid hr
  have HRI := Lib.hid hri
  have HWF := Lib.hid hwf
  have HN := Lib.hid hn
  have hmm := @run_makeMap Tryd.prog
  clear hr hri hwf
  go_enter Tryd.func64, Tryd.ntmps64
  go_wp2_with fail
  obtain ⟨w0, hw0⟩ : ∃ w0, (W.alloc (.cells #[.int .i64 nx, .slice (some ⟨b, off, none⟩) n c] 29)).alloc (.map #[] 0) = w0 := ⟨_, rfl⟩
  have hs0 : w0.heap.size = W.heap.size + 2 := by rw [← hw0]; simp
  have HB0 : Hid (Below W.heap.size W w0) := by show Below _ _ _; rw [← hw0]; exact (below_alloc _ _).alloc (by simp) _
  have HI0 : Hid (IdxM w0 (W.heap.size + 1) b off os 0) := by
    have h := IdxM.made (W.alloc (.cells #[.int .i64 nx, .slice (some ⟨b, off, none⟩) n c] 29)) b off os
    rw [hw0] at h
    have e : (W.alloc (.cells #[.int .i64 nx, .slice (some ⟨b, off, none⟩) n c] 29)).heap.size = W.heap.size + 1 := by simp
    rw [e] at h
    exact h
  have HR0 : Hid (RW 29 w0 W.heap.size #[.int .i64 nx, .slice (some ⟨b, off, none⟩) n c]) := by show RW _ _ _ _; rw [← hw0]; exact (RW.new W _ _).alloc _
  rw [hw0]
  clear hw0 hmm
  go_loopw [9] (fun i wr => ∃ k : Nat, k ≤ n ∧ i = .int .i64 k ∧ Hid (Below W.heap.size W wr) ∧ Hid (IdxM wr (W.heap.size + 1) b off os k ∧ W.heap.size + 2 ≤ wr.heap.size ∧ RW 29 wr W.heap.size #[.int .i64 nx, .slice (some ⟨b, off, none⟩) n c])) (fun i _ => n - (intOf i).toNat)
  case atStart => exact ⟨0, Nat.zero_le _, rfl, HB0, HI0.out, by omega, HR0.out⟩
  case round =>
    obtain ⟨k, hk, rfl, HW, HV⟩ := hrel
    by_cases hlt : k < n
    · obtain ⟨b', off', o, l, hA, hg, hx, ⟨q0, _⟩, _⟩ := (HR.out.go HW.out).at_ hlt
      simp only [Option.some.injEq, Addr.mk.injEq, and_true] at hA
      obtain ⟨rfl, rfl⟩ := hA
      have HX := Lib.hid hx
      have b0 : (0 : Int) ≤ (k : Int) := by omega
      have b1 : (k : Int) < (n : Int) := by omega
      have p1 : wr.cell? ⟨W.heap.size, 1, none⟩ = some (.slice (some ⟨b, off, none⟩) n c) := HV.out.2.2.cell 1
      have HKM : Hid (k < maxLen) := by show _ < _; unfold maxLen; omega
      have HDF : Hid (∀ (j : Nat) (a : Ob), j < k → os[j]? = some a → a.id ≠ o.id) := fun j a hj ha e => by
        have := rising_inj HRI.out ha HX.out e
        omega
      clear hx hg
      go_wp2_with fail
      go_still_tail 11, (by kernel_rfl)
      change wpList _ _ _ _ _ wr.drew
      have HI := Lib.hid (HV.out.1.below (Below.refl wr.heap.size wr).drew (by have := HV.out.2.1; omega))
      have HRD : Hid (RW 29 wr.drew W.heap.size #[.int .i64 nx, .slice (some ⟨b, off, none⟩) n c]) := HV.out.2.2
      have HWD := Lib.hid (HW.out.trans ((Below.refl W.heap.size wr).drew))
      refine wpList_idx_store rfl (.tmp 12) (.tmp 18) (.tmp 22) rfl (W.heap.size + 1) b off k os o HI.out HX.out HDF.out HKM.out (HWF.out k o HX.out) rfl rfl rfl ?_
      intro w2 hi2 hg2
      have HI2 : Hid (IdxM w2 (W.heap.size + 1) b off os (k + 1) ∧ W.heap.size + 2 ≤ w2.heap.size ∧ RW 29 w2 W.heap.size #[.int .i64 nx, .slice (some ⟨b, off, none⟩) n c]) := ⟨hi2, Nat.le_trans HV.out.2.1 hg2.size, (hg2.block W.heap.size HRD.out.lt (by simp)).trans HRD.out⟩
      have HW2 : Hid (Below W.heap.size W w2) := HWD.out.grown hg2 HW.out.size (fun j hj => by cases hj; omega)
      clear hi2 hg2 HI HRD HWD
      go_frame
      go_wp2_with fail
      go_roundw
      case rel => exact ⟨k + 1, by omega, by go_num, HW2, HI2⟩
      case measure => simp [intOf]; omega
    · go_wp2_with fail
      go_ret
      exact ⟨_, rfl, Lib.hid ⟨by have h := HV.out.1; have e : k = n := (by omega); rw [e] at h; exact h, Nat.lt_of_lt_of_le (by omega) HV.out.2.1⟩, HW.out⟩

theorem valid_ref {k n r : Int} {t : ByteArray} (h : isRefV k n t r = true) : (4 ≤ k ∧ k ≤ 6) ∧ validV k n t r = true ∧ (Lit.int .i64 r).wf = true := by
  unfold isRefV at h
  simp only [Bool.and_eq_true, decide_eq_true_eq] at h
  refine ⟨h.2, h.1, ?_⟩
  have hv := h.1
  unfold validV at hv
  rw [if_neg (by omega), if_neg (by omega), if_neg (by omega), if_pos (by omega)] at hv
  simp only [Bool.and_eq_true, decide_eq_true_eq] at hv
  unfold Lit.wf
  simp only [Bool.and_eq_true, decide_eq_true_eq]
  have h1 := hv.2
  exact ⟨by show (-9223372036854775808 : Int) ≤ r; omega, by show r ≤ (9223372036854775807 : Int); omega⟩
theorem refKind_iff {o : Ob} {k : Int} (hk : 4 ≤ k ∧ k ≤ 6) : refKind o = k ↔ o.kind = k - 3 := by
  unfold refKind
  split
  · omega
  · split
    · omega
    · split <;> omega

set_option maxHeartbeats 4000000 in
set_option maxRecDepth 100000 in
theorem fits_any (m b off n : Nat) (os : List Ob) (x : Vl) (W : World) (hi : IdxM W m b off os n) (hm : m < W.heap.size) (hr : OI W W.heap.size (some ⟨b, off, none⟩) n os) (hri : Rising os) (hx : x.t.size ≤ maxLen) (hT : Classes W) :
    Calls Tryd.prog 45 #[.map (some m), x.ag] W fun e w' => e = .returned (.bool (tt (Fits os x))) ∧ Below W.heap.size W w' := by
  obtain ⟨P, hP⟩ : ∃ P, tt (Fits os x) = P := ⟨_, rfl⟩
  have HP := Lib.hid hP
  rw [hP]
  clear hP
  obtain ⟨k, nn, t, r⟩ := x
  have HI := Lib.hid hi
  have HM := Lib.hid hm
  have HR := Lib.hid hr
  have HRI := Lib.hid hri
  have HX := Lib.hid hx
  have HT := Lib.hid hT
  have HC := Lib.hid (one_new W 37 #[.int .i64 k, .int .i64 nn, .string t, .int .i64 r])
  clear hi hm hr hri hx hT
  show Calls Tryd.prog 45 #[.map (some m), .agg #[.int .i64 k, .int .i64 nn, .string t, .int .i64 r]] W _
  obtain ⟨f, hf⟩ : ∃ f, isRefV k nn t r = f := ⟨_, rfl⟩
  have HF := Lib.hid hf
  clear hf
  cases f
  · have HPV : Hid (validV k nn t r = P) := by
      show _ = _
      rw [← HP.out, Bool.eq_iff_iff]
      simp only [tt_iff]
      constructor
      · intro h
        refine ⟨h, fun hk => ?_⟩
        have hk' : 4 ≤ k ∧ k ≤ 6 := hk
        have := HF.out
        unfold isRefV at this
        rw [h] at this
        simp at this
        omega
      · exact fun h => h.1
    go_enter Tryd.func45, Tryd.ntmps45
    go_wp2_with (first
      | (go_at_call 71; obtain ⟨g0, g1, g2⟩ := HC.out _ rfl; have HQ := impl_IsReference_any k nn t r _ HX.out (classes_go HT.out g1); refine Calls.mono HQ ?_; clear HQ; rintro e w1 ⟨rfl, hb⟩; rw [HF.out]; have HR1 := Lib.hid (g0.below hb g2); have HB1 := Lib.hid (g1.trans (hb.mono g1.size)); have q0 : w1.cell? ⟨W.heap.size, 0, none⟩ = some (.int .i64 k) := HR1.out.cell 0; have q1 : w1.cell? ⟨W.heap.size, 1, none⟩ = some (.int .i64 nn) := HR1.out.cell 1; have q2 : w1.cell? ⟨W.heap.size, 2, none⟩ = some (.string t) := HR1.out.cell 2; have q3 : w1.cell? ⟨W.heap.size, 3, none⟩ = some (.int .i64 r) := HR1.out.cell 3; clear g0 g1 g2 hb)
      | (go_at_call 72; have HQ := impl_ValidValue_any k nn t r w1 HX.out (classes_go HT.out HB1.out); refine Calls.mono HQ ?_; clear HQ; rintro e w2 ⟨rfl, hb⟩; rw [HPV.out]; have HB2 := Lib.hid (HB1.out.trans (hb.mono HB1.out.size)); clear hb q0 q1 q2 q3))
    all_goals go_ret
    all_goals exact ⟨rfl, HB2.out⟩
  obtain ⟨hk, hv, hwf⟩ := valid_ref HF.out
  have HKK := Lib.hid hk
  have HV := Lib.hid hv
  have HWF := Lib.hid hwf
  clear hk hv hwf
  by_cases hex : ∃ (j : Nat) (o : Ob), j < n ∧ os[j]? = some o ∧ o.id = r
  · obtain ⟨j, o, hj, ho, hid⟩ := hex
    have HLK : Hid (∀ w1, Below W.heap.size W w1 → (Instr.lookup 70 (.map (some m)) (.int .i64 r) true).run Tryd.prog w1 = .ok (.tuple #[.pointer (some ⟨b, off + j * 10, none⟩), .bool true]) w1) := by
      intro w1 hb1
      rcases (HI.out.below hb1 HM.out).look r HWF.out with ⟨j', o', hj', ho', hid', hrun⟩ | ⟨hno, _⟩
      · have e := rising_inj HRI.out ho ho' (by rw [hid, hid'])
        rw [e]
        exact hrun
      · exact absurd hid (hno j o hj ho)
    obtain ⟨z, hz⟩ : ∃ z, (refKind o == k) = z := ⟨_, rfl⟩
    have HPZ : Hid (P = z) := by
      show _ = _
      rw [← HP.out, ← hz, Bool.eq_iff_iff]
      simp only [tt_iff, beq_iff_eq]
      rw [refKind_iff HKK.out]
      constructor
      · intro h
        obtain ⟨i, o2, h1, h2, h3⟩ := h.2 HKK.out
        have e := rising_inj HRI.out h1 ho (by rw [h2, hid])
        rw [e, ho, Option.some.injEq] at h1
        rw [h1]
        exact h3
      · exact fun h => ⟨HV.out, fun _ => ⟨j, o, ho, hid, h⟩⟩
    have HJ := Lib.hid hj
    have HO := Lib.hid ho
    clear hj ho hid
    go_enter Tryd.func45, Tryd.ntmps45
    go_wp2_with (go_at_call 71; obtain ⟨g0, g1, g2⟩ := HC.out _ rfl; have HQ := impl_IsReference_any k nn t r _ HX.out (classes_go HT.out g1); refine Calls.mono HQ ?_; clear HQ; rintro e w1 ⟨rfl, hb⟩; rw [HF.out]; have HR1 := Lib.hid (g0.below hb g2); have HB1 := Lib.hid (g1.trans (hb.mono g1.size)); have q3 : w1.cell? ⟨W.heap.size, 3, none⟩ = some (.int .i64 r) := HR1.out.cell 3; have hrun := HLK.out w1 HB1.out; clear g0 g1 g2 hb)
    obtain ⟨b', off', o', l, hA, hg, hx, ⟨p0, p1, p2, p3, p4, p5, p6, p7, p8, p9⟩, _⟩ := (HR.out.go HB1.out).at_ HJ.out
    simp only [Option.some.injEq, Addr.mk.injEq, and_true] at hA
    obtain ⟨rfl, rfl⟩ := hA
    obtain rfl : o = o' := Option.some.inj (HO.out.symm.trans hx)
    have x0 := cell_regrown p0
    have x1 := cell_regrown p1
    have x2 := cell_regrown p2
    have x3 := cell_regrown p3
    have x4 := cell_regrown p4
    have x5 := cell_regrown p5
    have x6 := cell_regrown p6
    have x7 := cell_regrown p7
    have x8 := cell_regrown p8
    have x9 := cell_regrown p9
    have y0 := cell_regrown (HR1.out.cell 0)
    have cR : ∀ d os', Calls Tryd.prog 73 #[.agg #[.int .i64 o.id, .int .i64 o.kind, .string o.name, .int .i64 o.low, .slice l.Ak l.nk l.ck, .slice l.Av l.nv l.cv, .int .i64 o.d.k, .int .i64 o.d.n, .string o.d.t, .int .i64 o.d.r]] (grow (redrawn w1 d) os') (fun e w'' => e = .returned (.int .i64 (refKind o)) ∧ ∃ q : Regrown, w'' = grow (redrawn w1 q.d) q.os) := fun d os' => Calls.regrown_of (referenceKind_any o l _)
    clear hx hg p0 p1 p2 p3 p4 p5 p6 p7 p8 p9 q3 hrun
    refine wp_region_quiet_below (by kernel_rfl) (by kernel_rfl) ?_
    repeat (first | go_big_quiet_step (exact cR _ _) | quiet_step (exact cR _ _))
    refine wpQuiet_nil ?_
    intro w4 hw'
    obtain ⟨⟨dq, osq⟩, hw''⟩ := hw'
    have HB4 : Hid (Below W.heap.size W w4) := by show Below _ _ _; rw [hw'']; exact HB1.out.trans ((below_regrown w1 dq osq).mono HB1.out.size)
    clear hw'' x0 x1 x2 x3 x4 x5 x6 x7 x8 x9 y0 cR
    go_wp2_with fail
    go_ret
    exact ⟨by rw [HPZ.out]; rfl, HB4.out⟩
  · have HLK : Hid (∀ w1, Below W.heap.size W w1 → ∃ v, (Instr.lookup 70 (.map (some m)) (.int .i64 r) true).run Tryd.prog w1 = .ok (.tuple #[v, .bool false]) w1) := by
      intro w1 hb1
      rcases (HI.out.below hb1 HM.out).look r HWF.out with ⟨j', o', hj', ho', hid', hrun⟩ | ⟨_, hrun⟩
      · exact absurd ⟨j', o', hj', ho', hid'⟩ hex
      · exact hrun
    have HF1 : Hid (P = false) := by
      show _ = _
      rw [← HP.out]
      refine tt_false fun h => ?_
      obtain ⟨i, o2, h1, h2, _⟩ := h.2 HKK.out
      exact hex ⟨i, o2, by rw [← HR.out.1]; exact (List.getElem?_eq_some_iff.1 h1).1, h1, h2⟩
    clear hex
    go_enter Tryd.func45, Tryd.ntmps45
    go_wp2_with (go_at_call 71; obtain ⟨g0, g1, g2⟩ := HC.out _ rfl; have HQ := impl_IsReference_any k nn t r _ HX.out (classes_go HT.out g1); refine Calls.mono HQ ?_; clear HQ; rintro e w1 ⟨rfl, hb⟩; rw [HF.out]; have HR1 := Lib.hid (g0.below hb g2); have HB1 := Lib.hid (g1.trans (hb.mono g1.size)); have q3 : w1.cell? ⟨W.heap.size, 3, none⟩ = some (.int .i64 r) := HR1.out.cell 3; obtain ⟨v0, hrun⟩ := HLK.out w1 HB1.out; clear g0 g1 g2 hb)
    have y0 := cell_regrown (HR1.out.cell 0)
    clear q3 hrun
    refine wp_region_quiet_below (by kernel_rfl) (by kernel_rfl) ?_
    repeat (first | go_big_quiet_step (fail) | quiet_step (fail))
    refine wpQuiet_nil ?_
    intro w4 hw'
    obtain ⟨⟨dq, osq⟩, hw''⟩ := hw'
    have HB4 : Hid (Below W.heap.size W w4) := by show Below _ _ _; rw [hw'']; exact HB1.out.trans ((below_regrown w1 dq osq).mono HB1.out.size)
    clear hw'' y0
    go_wp2_with fail
    go_ret
    exact ⟨by rw [HF1.out]; rfl, HB4.out⟩

set_option maxHeartbeats 1000000 in
set_option maxRecDepth 100000 in
theorem fitAll_any (m b off nn : Nat) (os : List Ob) (A : Option Addr) (n c : Nat) (xs : List Vl) (W : World) (hi : IdxM W m b off os nn) (hm : m < W.heap.size) (ho : OI W W.heap.size (some ⟨b, off, none⟩) nn os) (hri : Rising os) (hr : VI W W.heap.size A n xs) (hT : Classes W) :
    Calls Tryd.prog 48 #[.map (some m), .slice A n c] W fun e w' => e = .returned (.bool (tt (FitAll os xs))) ∧ Below W.heap.size W w' := by
  have HR := Lib.hid hr
  have HT := Lib.hid hT
  have HI := Lib.hid hi
  have HM := Lib.hid hm
  have HO := Lib.hid ho
  have HRI := Lib.hid hri
  have hn := hr.2.1
  have HN := Lib.hid hr.1
  unfold maxLen at hn
  clear hr hT hi hm ho hri
  obtain ⟨P, hP⟩ : ∃ P, tt (FitAll os xs) = P := ⟨_, rfl⟩
  have HP := Lib.hid hP
  rw [hP]
  clear hP
  go_enter Tryd.func48, Tryd.ntmps48
  go_wp2_with fail
  go_loopw [9] (fun i wr => ∃ k : Nat, k ≤ n ∧ i = .int .i64 k ∧ Hid (Below W.heap.size W wr) ∧ Hid (∀ (j : Nat) (x : Vl), j < k → xs[j]? = some x → Fits os x)) (fun i _ => n - (intOf i).toNat)
  case atStart => exact ⟨0, Nat.zero_le _, rfl, Below.refl _ _, fun j x hj => absurd hj (by omega)⟩
  case round =>
    obtain ⟨k, hk, rfl, HW, HV⟩ := hrel
    by_cases hlt : k < n
    · obtain ⟨b2, off2, x, rfl, hg, hx, ⟨q0, q1, q2, q3⟩, hxs⟩ := (HR.out.below HW.out).at_ hlt
      have HX := Lib.hid hx
      have HXS := Lib.hid hxs
      obtain ⟨v, hv⟩ : ∃ v, tt (Fits os x) = v := ⟨_, rfl⟩
      have HVX := Lib.hid hv
      have HC := Lib.hid (one_new wr 37 #[.int .i64 x.k, .int .i64 x.n, .string x.t, .int .i64 x.r])
      have b0 : (0 : Int) ≤ (k : Int) := by omega
      have b1 : (k : Int) < (n : Int) := by omega
      clear hx hxs hg hv
      cases v
      · have HF : Hid (P = false) := by
          show _ = _
          rw [← HP.out]
          exact tt_false fun h => of_tt_false HVX.out (h k x HX.out)
        go_wp2_with (go_at_call 45; obtain ⟨g0, g1, g2⟩ := HC.out _ rfl; have hbx := HW.out.trans (g1.mono HW.out.size); have HQ := fits_any m b off nn os x _ (HI.out.below hbx HM.out) (Nat.lt_of_lt_of_le HM.out hbx.size) (HO.out.go hbx) HRI.out HXS.out (classes_go HT.out hbx); refine Calls.mono HQ ?_; clear HQ; rintro e w1 ⟨rfl, hb⟩; rw [HVX.out]; have HW1 : Hid (Below W.heap.size W w1) := (HW.out.trans (g1.mono HW.out.size)).trans (hb.mono (Nat.le_trans HW.out.size g1.size)); clear hb hbx g0 g1 g2)
        go_ret
        exact ⟨by rw [HF.out]; rfl, HW1.out⟩
      · go_wp2_with (go_at_call 45; obtain ⟨g0, g1, g2⟩ := HC.out _ rfl; have hbx := HW.out.trans (g1.mono HW.out.size); have HQ := fits_any m b off nn os x _ (HI.out.below hbx HM.out) (Nat.lt_of_lt_of_le HM.out hbx.size) (HO.out.go hbx) HRI.out HXS.out (classes_go HT.out hbx); refine Calls.mono HQ ?_; clear HQ; rintro e w1 ⟨rfl, hb⟩; rw [HVX.out]; have HW1 : Hid (Below W.heap.size W w1) := (HW.out.trans (g1.mono HW.out.size)).trans (hb.mono (Nat.le_trans HW.out.size g1.size)); clear hb hbx g0 g1 g2)
        have HNX : Hid (∀ (j : Nat) (x : Vl), j < k + 1 → xs[j]? = some x → Fits os x) := by
          intro j y hj hy
          by_cases e : j = k
          · rw [e, HX.out, Option.some.injEq] at hy
            subst hy
            exact of_tt HVX.out
          · exact HV.out j y (by omega) hy
        go_roundw
        case rel => exact ⟨k + 1, by omega, by go_num, HW1, HNX⟩
        case measure => simp [intOf]; omega
    · have hkn : k = n := by omega
      have HTT : Hid (P = true) := by
        show _ = _
        rw [← HP.out]
        refine tt_true fun j x hx => HV.out j x ?_ hx
        have := (List.getElem?_eq_some_iff.1 hx).1
        have := HN.out
        omega
      go_wp2_with fail
      go_ret
      exact ⟨by rw [HTT.out]; rfl, HW.out⟩
end Go.Proofs.YtbdmanadmckjjaaDoor
