/- Contract: areObjectsUpTo of the program. Condition: the table holds what the program's text lays. -/
import Derived.Test.YtbdmanadmckjjaaDoorObRefK
namespace Go.Proofs.YtbdmanadmckjjaaDoor
open Go Go.RowKit Go.Sort

/-- The number of the last of the first k objects, 0 ahead of them. -/
def lastK (os : List Ob) : Nat → Int
  | 0 => 0
  | k + 1 => (os[k]?.map Ob.id).getD 0
theorem lastK_next {os : List Ob} {k : Nat} {o : Ob} (h : os[k]? = some o) : lastK os (k + 1) = o.id := by
  show (os[k]?.map Ob.id).getD 0 = o.id
  rw [h]
  rfl
/-- What areObjectsUpTo asks. -/
def UpTo (nx : Int) (os : List Ob) : Prop := (∀ (j : Nat) (o : Ob), os[j]? = some o → ValidO o) ∧ Rising os ∧ lastK os os.length ≤ nx

set_option maxHeartbeats 4000000 in
set_option maxRecDepth 100000 in
theorem areObjectsUpTo_any (nx : Int) (A : Option Addr) (n c : Nat) (os : List Ob) (W : World) (hr : OI W W.heap.size A n os) (hT : Classes W) :
    Calls Tryd.prog 67 #[.int .i64 nx, .slice A n c] W fun e w' => e = .returned (.bool (tt (UpTo nx os))) ∧ Below W.heap.size W w' := by
  have HR := Lib.hid hr
  have HT := Lib.hid hT
  have hn := hr.2.1
  have HN := Lib.hid hr.1
  unfold maxLen at hn
  clear hr hT
  obtain ⟨P, hP⟩ : ∃ P, tt (UpTo nx os) = P := ⟨_, rfl⟩
  have HP := Lib.hid hP
  rw [hP]
  clear hP
  go_enter Tryd.func67, Tryd.ntmps67
  go_wp2_with fail
  go_loopw [5, 10] (fun q i wr => ∃ (k : Nat) (z : Int), k ≤ n ∧ i = .int .i64 k ∧ q = .int .i64 z ∧ Hid (z = lastK os k) ∧ Hid (Below W.heap.size W wr) ∧ Hid ((∀ (j : Nat) (o : Ob), j < k → os[j]? = some o → ValidO o) ∧ (∀ (j : Nat) (a b : Ob), j + 1 < k → os[j]? = some a → os[j + 1]? = some b → a.id < b.id))) (fun _ i _ => n - (intOf i).toNat)
  case atStart => exact ⟨0, 0, Nat.zero_le _, rfl, rfl, rfl, Below.refl _ _, fun j o hj => absurd hj (by omega), fun j a b hj => absurd hj (by omega)⟩
  case round =>
    obtain ⟨k, z, hk, rfl, rfl, HZ, HW, HV⟩ := hrel
    by_cases hlt : k < n
    · obtain ⟨b, off, o, l, rfl, hg, hx, ⟨q0, q1, q2, q3, q4, q5, q6, q7, q8, q9⟩, hov⟩ := (HR.out.go HW.out).at_ hlt
      have HX := Lib.hid hx
      have HOV := Lib.hid hov
      have b0 : (0 : Int) ≤ (k : Int) := by omega
      have b1 : (k : Int) < (n : Int) := by omega
      have HC := Lib.hid (one_new wr 49 (o.vs l).toArray)
      obtain ⟨VO, hVO⟩ : ∃ v, tt (ValidO o) = v := ⟨_, rfl⟩
      have HVO := Lib.hid hVO
      obtain ⟨L, hL⟩ : ∃ v, decide (o.id ≤ z) = v := ⟨_, rfl⟩
      have HL := Lib.hid hL
      clear hx hov hg hVO
      cases VO
      · have HF : Hid (P = false) := by
          show _ = _
          rw [← HP.out]
          exact tt_false fun h => of_tt_false HVO.out (h.1 k o HX.out)
        go_wp2_with (go_at_call 59; obtain ⟨g0, g1, g2⟩ := HC.out _ rfl; have HQ := impl_ValidObject_any o l _ (HOV.out.go g1) (classes_go HT.out (HW.out.trans (g1.mono HW.out.size))); refine Calls.mono HQ ?_; clear HQ; rintro e w1 ⟨rfl, hb⟩; rw [HVO.out]; have HW1 : Hid (Below W.heap.size W w1) := (HW.out.trans (g1.mono HW.out.size)).trans (hb.mono (Nat.le_trans HW.out.size g1.size)); have r0 : w1.cell? ⟨wr.heap.size, 0, none⟩ = some (.int .i64 o.id) := (g0.below hb g2).cell 0; clear g0 g1 g2 hb q0 q1 q2 q3 q4 q5 q6 q7 q8 q9)
        go_ret
        exact ⟨by rw [HF.out]; rfl, HW1.out⟩
      cases L
      · have HNX : Hid ((∀ (j : Nat) (o : Ob), j < k + 1 → os[j]? = some o → ValidO o) ∧ (∀ (j : Nat) (a b : Ob), j + 1 < k + 1 → os[j]? = some a → os[j + 1]? = some b → a.id < b.id)) := by
          refine ⟨fun i x hi hx => ?_, fun i u v hi hu hv => ?_⟩
          · by_cases e : i = k
            · rw [e, HX.out, Option.some.injEq] at hx
              subst hx
              exact of_tt HVO.out
            · exact HV.out.1 i x (by omega) hx
          · by_cases e : i + 1 = k
            · have hz := HZ.out
              rw [← e, lastK_next hu] at hz
              rw [e, HX.out, Option.some.injEq] at hv
              subst hv
              have := of_decide_eq_false HL.out
              omega
            · exact HV.out.2 i u v (by omega) hu hv
        have HNZ : Hid (o.id = lastK os (k + 1)) := (lastK_next HX.out).symm
        go_wp2_with (go_at_call 59; obtain ⟨g0, g1, g2⟩ := HC.out _ rfl; have HQ := impl_ValidObject_any o l _ (HOV.out.go g1) (classes_go HT.out (HW.out.trans (g1.mono HW.out.size))); refine Calls.mono HQ ?_; clear HQ; rintro e w1 ⟨rfl, hb⟩; rw [HVO.out]; have HW1 : Hid (Below W.heap.size W w1) := (HW.out.trans (g1.mono HW.out.size)).trans (hb.mono (Nat.le_trans HW.out.size g1.size)); have r0 : w1.cell? ⟨wr.heap.size, 0, none⟩ = some (.int .i64 o.id) := (g0.below hb g2).cell 0; clear g0 g1 g2 hb q0 q1 q2 q3 q4 q5 q6 q7 q8 q9)
        go_roundw
        case rel => exact ⟨k + 1, o.id, by omega, by go_num, rfl, HNZ, HW1, HNX⟩
        case measure => simp [intOf]; omega
      · have HF : Hid (P = false) := by
          show _ = _
          rw [← HP.out]
          refine tt_false fun h => ?_
          have h1 := of_decide_eq_true HL.out
          have h2 := HZ.out
          have h3 := (h.1 k o HX.out).1.1
          rcases Nat.eq_zero_or_pos k with e | e
          · subst e
            have h5 : z = 0 := h2
            omega
          · obtain ⟨j, rfl⟩ : ∃ j, k = j + 1 := ⟨k - 1, by omega⟩
            have hj : j < os.length := by have := (List.getElem?_eq_some_iff.1 HX.out).1; omega
            have h4 := h.2.1 j _ o (List.getElem?_eq_getElem hj) HX.out
            rw [lastK_next (List.getElem?_eq_getElem hj)] at h2
            omega
        go_wp2_with (go_at_call 59; obtain ⟨g0, g1, g2⟩ := HC.out _ rfl; have HQ := impl_ValidObject_any o l _ (HOV.out.go g1) (classes_go HT.out (HW.out.trans (g1.mono HW.out.size))); refine Calls.mono HQ ?_; clear HQ; rintro e w1 ⟨rfl, hb⟩; rw [HVO.out]; have HW1 : Hid (Below W.heap.size W w1) := (HW.out.trans (g1.mono HW.out.size)).trans (hb.mono (Nat.le_trans HW.out.size g1.size)); have r0 : w1.cell? ⟨wr.heap.size, 0, none⟩ = some (.int .i64 o.id) := (g0.below hb g2).cell 0; clear g0 g1 g2 hb q0 q1 q2 q3 q4 q5 q6 q7 q8 q9)
        go_ret
        exact ⟨by rw [HF.out]; rfl, HW1.out⟩
    · have hkn : k = n := by omega
      obtain ⟨y, hy⟩ : ∃ y, decide (z ≤ nx) = y := ⟨_, rfl⟩
      have HPY : Hid (P = y) := by
        show _ = _
        rw [← HP.out, ← hy, Bool.eq_iff_iff]
        simp only [tt_iff, decide_eq_true_eq]
        have hz := HZ.out
        rw [hkn, ← HN.out] at hz
        constructor
        · intro h
          rw [hz]
          exact h.2.2
        · intro h
          refine ⟨fun j x hx => HV.out.1 j x ?_ hx, fun j u v hu hv => HV.out.2 j u v ?_ hu hv, by rw [← hz]; exact h⟩
          · have := (List.getElem?_eq_some_iff.1 hx).1
            have := HN.out
            omega
          · have := (List.getElem?_eq_some_iff.1 hv).1
            have := HN.out
            omega
      clear HV hkn
      go_wp2_with fail
      go_ret
      exact ⟨by rw [HPY.out]; first | done | rfl, HW.out⟩
end Go.Proofs.YtbdmanadmckjjaaDoor
