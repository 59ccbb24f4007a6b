/- Contract: appendStatements of the program. Condition: the line's text is not too long. -/
import Derived.Test.YtfobjedobojbnabDoorComb
import Derived.Test.YtfobjedobojbnabDoorLogSize
namespace Go.Proofs.YtfobjedobojbnabDoor
open Go Go.RowKit

theorem ownL_ne {w : World} {B g : Nat} {v : Value} {xs : List Lin} {cs : Array Value} (h : OwnL w B v xs) (hs : SB w g cs) : v.ownBlock ≠ some g := by
  rcases h.2 with ⟨rfl, h0⟩ | ⟨g', cap, cur, rfl, hg, hh, hnc, _, hcs, ht⟩
  · simp [Value.ownBlock]
  · intro e
    have e' : g' = g := by simpa [Value.ownBlock] using e
    subst e'
    unfold SB at hs
    rw [hs] at hh
    simp at hh
theorem ownL_ge {w : World} {B : Nat} {v : Value} {xs : List Lin} (h : OwnL w B v xs) : ∀ k, v.ownBlock = some k → B ≤ k := fun b hb => (h.lt b hb).1

set_option maxHeartbeats 4000000 in
set_option maxRecDepth 100000 in
theorem appendStatements_any (B : Nat) (v : Value) (acc : List Lin) (x : Lin) (W : World) (ho : OwnL W B v acc) (hB : B ≤ W.heap.size) (hx : x.t.size ≤ 1048576) (ha : acc.length ≤ 1048576) :
    Calls Tryd.prog 33 #[v, .agg #[.int .i64 x.n, .string x.t]] W fun e w' => ∃ v', e = .returned v' ∧ OwnL w' B v' (stmL x acc) ∧ Below B W w' := by
  obtain ⟨i0, hi0, hz0, hz1, hz2⟩ := info_parts linInfo
  obtain ⟨xn, xt⟩ := x
  have hsm : stmL ⟨xn, xt⟩ acc = acc ++ partL xn (stm xt 0 0 0) := rfl
  rw [hsm]
  clear hsm
  dsimp only at hx ⊢
  have HX : Hid (xt.size ≤ 1048576) := hx
  have HO := Lib.hid ho
  have hpl : (stm xt 0 0 0).length ≤ 1048577 := by have := stm_length xt xt.size 0 0 0 (by omega); omega
  have HSP : Hid (∀ w, Calls Tryd.prog 63 #[.string xt] w (Rets w (stm xt 0 0 0))) := fun w => impl_SplitStatements_any xt w hx
  clear ho hx
  generalize stm xt 0 0 0 = ps at hpl HSP ⊢
  go_enter Tryd.func33, Tryd.ntmps33
  go_wp2_with (go_at_call 63; refine (HSP.out _).mono ?_; rintro e w1 ⟨gp, cp, cs, rfl, hgp, hsb, hcs, hcap, hps, hb⟩)
  have HPS := Lib.hid hps
  have hg0 : W.heap.size ≠ gp := by simp at hgp; omega
  have HG0 := Lib.hid hg0
  go_loopw [0, 11] (fun v i wr => ∃ (k : Nat) (xs : List Lin), k ≤ ps.length ∧ i = .int .i64 k ∧ Hid (OwnL wr B v xs) ∧ xs.length ≤ acc.length + k ∧ Hid (v.ownBlock ≠ some W.heap.size) ∧ Hid (LB wr W.heap.size #[.int .i64 xn, .string xt]) ∧ Hid (SB wr gp cs) ∧ Hid (xs ++ partL xn (ps.drop k) = acc ++ partL xn ps) ∧ Hid (Below B W wr)) (fun _ i _ => ps.length - (intOf i).toNat)
  case atStart =>
    refine ⟨0, acc, Nat.zero_le _, rfl, Lib.hid (ownL_keep (HO.out.alloc _) hb), Nat.le_refl _, Lib.hid (fun e => by have := (HO.out.lt _ e).2; omega), Lib.hid ?_, Lib.hid hsb, Lib.hid rfl, Lib.hid (((Below.refl _ _).alloc hB _).trans (hb.mono (by simp; omega)))⟩
    exact (hb.block W.heap.size (by simp)).trans (heap_alloc_new W _)
  case round =>
    clear hsb hb hps hcs hcap hgp hg0 HO
    obtain ⟨k, xs, hk, rfl, HO, hx, HNE, HL, HS, HE, HW⟩ := hrel
    by_cases hlt : k < ps.length
    · have hpk : ps[k]? = some (ps[k]'hlt) := List.getElem?_eq_getElem hlt
      generalize ps[k]'hlt = p at hpk
      have q0 := (HS.out.cell k).trans (HPS.out k p hpk)
      have c0 := HL.out.cell 0
      have hc0 : (#[Value.int .i64 xn, Value.string xt] : Array Value)[0]? = some (.int .i64 xn) := rfl
      rw [hc0] at c0
      clear hc0
      have hnx := part_next (n := xn) hpk
      have b0 : (0 : Int) ≤ (k : Int) := by omega
      have b1 : (k : Int) < (ps.length : Int) := by omega
      obtain ⟨b, hbl⟩ : ∃ b, blankB p = b := ⟨_, rfl⟩
      rw [hbl] at hnx
      have HBL := Lib.hid hbl
      have HNX := Lib.hid hnx
      clear hbl hpk hnx
      obtain ⟨A', c', rfl, hrow⟩ := ownL_row HO.out
      clear hrow
      cases b
      · go_wp2_with (first | (go_at_call 58; refine (impl_IsBlankLine_any _ _).mono ?_; rintro e w' ⟨rfl, rfl⟩; rw [HBL.out]) | (at_builtin; refine wpList_append_own_at _ rfl _ _ 22 rfl B 39 i0 (.agg #[.int .i64 0, .string ByteArray.empty]) 2 24 Tryd.underlying22 hi0 hz0 hz1 hz2 rfl (by decide) _ _ _ rfl (HO.out.alloc _) ⟨wr.heap.size, 0, none⟩ 1 1 [.int .i64 xn, .string p] rfl rfl (cell_two_new _ _ _ _) (fun x hx => by simp at hx; rcases hx with rfl | rfl <;> rfl) (by unfold maxLen; omega) (by omega) (by have := HW.out.size; simp; omega) ?_; intro v1 w1 hown1 hgr1 _ hor))
        go_roundw
        case rel =>
          have HSZ : W.heap.size ≤ wr.heap.size := HW.out.size
          have hnl : some W.heap.size ≠ (Value.slice A' xs.length c').ownBlock := fun e => HNE.out e.symm
          have hnp : some gp ≠ (Value.slice A' xs.length c').ownBlock := fun e => ownL_ne HO.out HS.out e.symm
          have hL0 := HL.out.lt
          have hP0 := HS.out.lt
          refine ⟨k + 1, xs ++ [⟨xn, p⟩], by omega, by go_num, Lib.hid (ownL_snoc ⟨xn, p⟩ hown1), by simp; omega, Lib.hid ?_, Lib.hid ?_, Lib.hid ?_, Lib.hid ?_, Lib.hid ?_⟩
          · intro e
            rcases hor with h | h
            · exact hnl ((h.symm.trans e).symm)
            · rw [h] at e
              simp at e
              omega
          · exact (hgr1.block W.heap.size (by simp; omega) hnl).trans (HL.out.below ((Below.refl _ _).alloc (Nat.le_refl _) _) hL0)
          · exact (hgr1.block gp (by simp; omega) hnp).trans (HS.out.below ((Below.refl _ _).alloc (Nat.le_refl _) _) hP0)
          · rw [← HE.out, HNX.out, List.append_assoc]
            rfl
          · exact (HW.out.alloc (by omega) _).grown hgr1 (by simp; omega) (fun b hb => (HO.out.lt b hb).1)
        case measure => simp [intOf]; omega
      · go_wp2_with (go_at_call 58; refine (impl_IsBlankLine_any _ _).mono ?_; rintro e w' ⟨rfl, rfl⟩; rw [HBL.out])
        go_roundw
        case rel => exact ⟨k + 1, xs, by omega, by go_num, HO, by omega, HNE, HL, HS, by show _ = _; rw [← HE.out, HNX.out]; rfl, HW⟩
        case measure => simp [intOf]; omega
    · have hd : ps.drop k = [] := List.drop_eq_nil_of_le (by omega)
      have HR : Hid (xs = acc ++ partL xn ps) := by
        show _ = _
        rw [← HE.out, hd]
        simp [partL]
      clear hd
      go_wp2_with fail
      go_ret
      exact ⟨_, rfl, by rw [← HR.out]; exact HO.out, HW.out⟩
end Go.Proofs.YtfobjedobojbnabDoor
