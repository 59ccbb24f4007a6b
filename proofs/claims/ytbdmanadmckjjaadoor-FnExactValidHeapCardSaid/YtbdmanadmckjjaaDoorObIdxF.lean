/- Contract: indexObjects of the program. Condition: the objects rise, their numbers are numbers of Go's, and they are few. -/
import Derived.Test.YtbdmanadmckjjaaDoorObIdx
import Derived.StillTailTactics
import Derived.Maps.RangeWalk
namespace Go.Proofs.YtbdmanadmckjjaaDoor
open Go Go.RowKit Go.Sort Go.Maps

/-- 'm[list[k].Id] = &list[k]' AT THE OPERATION. -/
theorem wpList_idx_store {w : World} {ops : Array Oper} {rest : List Oper} {op : Oper} {a : Act} {Q : Exit → Act → World → Prop} (hg : op.guard = none) (mm x v : Operand) (hop : op.op = Op.mapUpdate 70 mm x v)
    (m b off k : Nat) (os : List Ob) (o : Ob) (h : IdxM w m b off os k) (ho : os[k]? = some o) (hd : ∀ (j : Nat) (a : Ob), j < k → os[j]? = some a → a.id ≠ o.id) (hk : k < maxLen) (wf : (Lit.int .i64 o.id).wf = true)
    (hm : a.eval mm = .map (some m)) (hx : a.eval x = .int .i64 o.id) (hv : a.eval v = .pointer (some ⟨b, off + k * 10, none⟩))
    (hK : ∀ w', IdxM w' m b off os (k + 1) → w.grownBy w' (some m) → wpList Tryd.prog ops Q rest (a.put op.dst undef) w') : wpList Tryd.prog ops Q (op :: rest) a w := by
  refine wpList_plain hg fun K' hK' => ?_
  obtain ⟨w', hrun, r1, r2⟩ := h.store ho hd hk wf
  unfold Oper.wp
  simp [execOp, hop, hm, hx, hv, hrun, Result.andThen]
  exact hK' _ _ (hK w' r1 r2)

set_option maxHeartbeats 2000000 in
set_option maxRecDepth 100000 in
theorem indexObjects_any (nx : Int) (b off n c : Nat) (os : List Ob) (W : World) (hr : OI W W.heap.size (some ⟨b, off, none⟩) n os) (hri : Rising os) (hwf : ∀ (j : Nat) (o : Ob), os[j]? = some o → (Lit.int .i64 o.id).wf = true) (hn : n ≤ 40) :
    Calls Tryd.prog 64 #[.agg #[.int .i64 nx, .slice (some ⟨b, off, none⟩) n c]] W fun e w' => ∃ m, e = .returned (.map (some m)) ∧ Hid (IdxM w' m b off os n ∧ m < w'.heap.size) ∧ Below W.heap.size W w' := by
  have HR := Lib.hid hr
  have HRI := Lib.hid hri
  have HWF := Lib.hid hwf
  have HN := Lib.hid hn
  have hmm := @run_makeMap Tryd.prog
  clear hr hri hwf
  go_enter Tryd.func64, Tryd.ntmps64
  go_wp2_with fail
  obtain ⟨w0, hw0⟩ : ∃ w0, (W.alloc (.cells #[.int .i64 nx, .slice (some ⟨b, off, none⟩) n c] 29)).alloc (.map #[] 0) = w0 := ⟨_, rfl⟩
  have hs0 : w0.heap.size = W.heap.size + 2 := by rw [← hw0]; simp
  have HB0 : Hid (Below W.heap.size W w0) := by show Below _ _ _; rw [← hw0]; exact (below_alloc _ _).alloc (by simp) _
  have HI0 : Hid (IdxM w0 (W.heap.size + 1) b off os 0) := by
    have h := IdxM.made (W.alloc (.cells #[.int .i64 nx, .slice (some ⟨b, off, none⟩) n c] 29)) b off os
    rw [hw0] at h
    have e : (W.alloc (.cells #[.int .i64 nx, .slice (some ⟨b, off, none⟩) n c] 29)).heap.size = W.heap.size + 1 := by simp
    rw [e] at h
    exact h
  have HR0 : Hid (RW 29 w0 W.heap.size #[.int .i64 nx, .slice (some ⟨b, off, none⟩) n c]) := by show RW _ _ _ _; rw [← hw0]; exact (RW.new W _ _).alloc _
  rw [hw0]
  clear hw0 hmm
  go_loopw [9] (fun i wr => ∃ k : Nat, k ≤ n ∧ i = .int .i64 k ∧ Hid (Below W.heap.size W wr) ∧ Hid (IdxM wr (W.heap.size + 1) b off os k ∧ W.heap.size + 2 ≤ wr.heap.size ∧ RW 29 wr W.heap.size #[.int .i64 nx, .slice (some ⟨b, off, none⟩) n c])) (fun i _ => n - (intOf i).toNat)
  case atStart => exact ⟨0, Nat.zero_le _, rfl, HB0, HI0.out, by omega, HR0.out⟩
  case round =>
    obtain ⟨k, hk, rfl, HW, HV⟩ := hrel
    by_cases hlt : k < n
    · obtain ⟨b', off', o, l, hA, hg, hx, ⟨q0, _⟩, _⟩ := (HR.out.go HW.out).at_ hlt
      simp only [Option.some.injEq, Addr.mk.injEq, and_true] at hA
      obtain ⟨rfl, rfl⟩ := hA
      have HX := Lib.hid hx
      have b0 : (0 : Int) ≤ (k : Int) := by omega
      have b1 : (k : Int) < (n : Int) := by omega
      have p1 : wr.cell? ⟨W.heap.size, 1, none⟩ = some (.slice (some ⟨b, off, none⟩) n c) := HV.out.2.2.cell 1
      have HKM : Hid (k < maxLen) := by show _ < _; unfold maxLen; omega
      have HDF : Hid (∀ (j : Nat) (a : Ob), j < k → os[j]? = some a → a.id ≠ o.id) := fun j a hj ha e => by
        have := rising_inj HRI.out ha HX.out e
        omega
      clear hx hg
      go_wp2_with fail
      go_still_tail 11, (by kernel_rfl)
      change wpList _ _ _ _ _ wr.drew
      have HI := Lib.hid (HV.out.1.below (Below.refl wr.heap.size wr).drew (by have := HV.out.2.1; omega))
      have HRD : Hid (RW 29 wr.drew W.heap.size #[.int .i64 nx, .slice (some ⟨b, off, none⟩) n c]) := HV.out.2.2
      have HWD := Lib.hid (HW.out.trans ((Below.refl W.heap.size wr).drew))
      refine wpList_idx_store rfl (.tmp 12) (.tmp 18) (.tmp 22) rfl (W.heap.size + 1) b off k os o HI.out HX.out HDF.out HKM.out (HWF.out k o HX.out) rfl rfl rfl ?_
      intro w2 hi2 hg2
      have HI2 : Hid (IdxM w2 (W.heap.size + 1) b off os (k + 1) ∧ W.heap.size + 2 ≤ w2.heap.size ∧ RW 29 w2 W.heap.size #[.int .i64 nx, .slice (some ⟨b, off, none⟩) n c]) := ⟨hi2, Nat.le_trans HV.out.2.1 hg2.size, (hg2.block W.heap.size HRD.out.lt (by simp)).trans HRD.out⟩
      have HW2 : Hid (Below W.heap.size W w2) := HWD.out.grown hg2 HW.out.size (fun j hj => by cases hj; omega)
      clear hi2 hg2 HI HRD HWD
      go_frame
      go_wp2_with fail
      go_roundw
      case rel => exact ⟨k + 1, by omega, by go_num, HW2, HI2⟩
      case measure => simp [intOf]; omega
    · go_wp2_with fail
      go_ret
      exact ⟨_, rfl, Lib.hid ⟨by have h := HV.out.1; have e : k = n := (by omega); rw [e] at h; exact h, Nat.lt_of_lt_of_le (by omega) HV.out.2.1⟩, HW.out⟩
end Go.Proofs.YtbdmanadmckjjaaDoor
