/- Contract: PrintTokens of the model. No condition. -/
import Derived.Test.YtfobjedobojbnabDoorPrintTok
namespace Go.Proofs.YtfobjedobojbnabDoor
open Go Go.RowKit

theorem tok_text {k n : Int} {t : ByteArray} (h : validTok k n t = true) : textOf k n t = tokText k n t := by unfold tokText; rw [if_pos h]

set_option maxHeartbeats 4000000 in
set_option maxRecDepth 100000 in
theorem spec_PrintTokens_any (A : Option Addr) (n c : Nat) (xs : List Tok) (W : World) (hr : TR W W.heap.size A n xs) (hn : n ≤ 1048576) (hv : ∀ (j : Nat) (x : Tok), xs[j]? = some x → x.t.size ≤ 1048576) :
    Calls Tryd.prog 13 #[.slice A n c] W fun e w' => e = .returned (.string (printT xs)) ∧ Below W.heap.size W w' := by
  have HR := Lib.hid hr
  have HV := Lib.hid hv
  have HLN : Hid (xs.length = n) := hr.1
  have h1 : (n : Int) ≤ 1048576 := by omega
  clear hr hv
  obtain ⟨E, hE⟩ : ∃ E, Ending.returned (.string (printT xs)) = E := ⟨_, rfl⟩
  have HE := Lib.hid hE
  rw [hE]
  clear hE
  go_enter Tryd.func13, Tryd.ntmps13
  go_wp2_with fail
  go_loopw [3, 4] (fun s i wr => ∃ (k : Nat) (X : ByteArray), k ≤ n ∧ i = .int .i64 k ∧ s = .string X ∧ Hid (X = outT xs k) ∧ Hid (Below W.heap.size W wr) ∧ Hid (∀ (j : Nat) (x : Tok), j < k → xs[j]? = some x → validTok x.k x.n x.t = true)) (fun _ i _ => n - (intOf i).toNat)
  case atStart => exact ⟨0, _, Nat.zero_le _, rfl, rfl, by show _ = _; rfl, Below.refl _ _, Lib.hid (fun j x h => absurd h (by omega))⟩
  case round =>
    obtain ⟨k, X, hk, rfl, rfl, HX, HW, HVK⟩ := hrel
    by_cases hlt : k < n
    · have hl : Hid (k < xs.length) := by have := HR.out.1; show _ < _; omega
      obtain ⟨g, rfl, hg, hct⟩ := HR.out.2 (by omega)
      have hgl : g < wr.heap.size := Nat.lt_of_lt_of_le hg HW.out.size
      have h1 := hct k _ (List.getElem?_eq_getElem hl.out)
      obtain ⟨p0, p1, p2, p3, p4⟩ := h1.below HW.out hg
      have hxk : xs[k]? = some (xs[k]'hl.out) := List.getElem?_eq_getElem hl.out
      generalize xs[k]'hl.out = x at p0 p1 p2 p3 p4 hxk
      obtain ⟨xk, xn, xt, xb, xa⟩ := x
      dsimp only at p0 p1 p2 p3 p4
      have HXK := Lib.hid hxk
      have HCK : Hid (Cell5 wr g k ⟨xk, xn, xt, xb, xa⟩) := ⟨p0, p1, p2, p3, p4⟩
      have HCT := Lib.hid hct
      have b0 : (0 : Int) ≤ (k : Int) := by omega
      have b1 : (k : Int) < (n : Int) := by omega
      have ML : Hid (xt.size ≤ maxLen) := by show _ ≤ _; have h : xt.size ≤ 1048576 := HV.out k _ HXK.out; unfold maxLen; omega
      have hOS : X.size ≤ 1001 * k := by rw [HX.out]; exact outT_size k fun j x hj hx => tokText_size _ _ _
      have hTS : (tokText xk xn xt).size ≤ 1000 := tokText_size _ _ _
      have hXS : X.size ≤ 1049625000 := by omega
      obtain ⟨z, hz⟩ : ∃ z, validTok xk xn xt = z := ⟨_, rfl⟩
      have HZ := Lib.hid hz
      have HNX : Hid (outT xs (k + 1) = outT xs k ++ (if sepT xs k = true then ⟨#[32]⟩ else ⟨#[]⟩) ++ tokText xk xn xt) := out_next HXK.out
      clear hxk h1 hct hOS
      cases z
      · clear hz
        go_wp2_with (go_at_call 37; refine (spec_ValidToken_any _ _ _ _ _ _ ML.out).mono ?_; rintro e w1 ⟨rfl, hb⟩; rw [HZ.out]; have HB1 : Hid (Below W.heap.size W w1) := HW.out.trans (hb.mono HW.out.size); clear hb)
        go_ret
        exact ⟨by rw [← HE.out]; unfold printT; rw [if_neg (by rw [allV_no HXK.out HZ.out]; decide)]; first | done | rfl, HB1.out⟩
      · have HTX : Hid (textOf xk xn xt = tokText xk xn xt) := tok_text hz
        clear hz
        have HT2 : Hid (∀ w, Calls Tryd.prog 38 #[.agg #[.int .i64 xk, .int .i64 xn, .string xt, .bool xb, .bool xa]] w fun e w' => e = .returned (.string (tokText xk xn xt)) ∧ Below w.heap.size w w') := fun w => (l02Text_any xk xn xt xb xa w ML.out HZ.out).mono fun e w' h => ⟨h.1.trans (by rw [HTX.out]), h.2⟩
        have HVN : Hid (∀ (j : Nat) (x : Tok), j < k + 1 → xs[j]? = some x → validTok x.k x.n x.t = true) := Lib.hid (fun j x hj hx => by
          by_cases e : j = k
          · subst e
            rw [HXK.out, Option.some.injEq] at hx
            subst hx
            exact HZ.out
          · exact HVK.out j x (by omega) hx)
        generalize tokText xk xn xt = T at hTS HNX HT2
        by_cases hk0 : k = 0
        · subst hk0
          have HEN : Hid (X ++ T = outT xs (0 + 1)) := by show _ = _; rw [HNX.out, if_neg (by simp [sepT]), HX.out]; rfl
          go_wp2_with (first
            | (go_at_call 37; refine (spec_ValidToken_any _ _ _ _ _ _ ML.out).mono ?_; rintro e w1 ⟨rfl, hb⟩; rw [HZ.out]; have HB1 : Hid (Below W.heap.size W w1) := HW.out.trans (hb.mono HW.out.size); obtain ⟨r0, r1, r2, r3, r4⟩ := HCK.out.below hb hgl; clear hb p0 p1 p2 p3 p4)
            | (go_at_call 38; refine (HT2.out _).mono ?_; rintro e w2 ⟨rfl, hb⟩; have HB2 : Hid (Below W.heap.size W w2) := HB1.out.trans (hb.mono HB1.out.size); clear hb))
          go_roundw
          case rel => exact ⟨0 + 1, _, by omega, by go_num, rfl, HEN, HB2, HVN⟩
          case measure => simp [intOf]; omega
        · obtain ⟨m, hm⟩ : ∃ m, k = m + 1 := ⟨k - 1, by omega⟩
          have hxm : xs[m]? = some (xs[m]'(by have := hl.out; omega)) := List.getElem?_eq_getElem _
          generalize xs[m]'(by have := hl.out; omega) = y at hxm
          have HR4 := Lib.hid ((HCT.out m y hxm).below HW.out hg).2.2.2.2
          have HSV : Hid (sepT xs k = (xb || y.a)) := by
            show _ = _
            unfold sepT
            rw [HXK.out, show k - 1 = m by omega, hxm, decide_eq_true (by omega)]
            rfl
          generalize y.a = ya at HR4 HSV
          have i9 : (k : Int) - 1 = (m : Int) := by omega
          have i10 : (0 : Int) ≤ (m : Int) := by omega
          have i11 : (m : Int) < (n : Int) := by omega
          have i12 : decide ((k : Int) > 0) = true := decide_eq_true (by omega)
          have i13 : decide (0 < (k : Int)) = true := decide_eq_true (by omega)
          have i14 : IntKind.i64.wrap (m : Int) = (m : Int) := IntWalk.i64_in _ (by omega)
          have i15 : 0 < k := by omega
          clear hm hk0 hxm
          obtain ⟨Y, hY⟩ : ∃ Y, X ++ (if (xb || ya) = true then (⟨#[32]⟩ : ByteArray) else ⟨#[]⟩) ++ T = Y := ⟨_, rfl⟩
          have HY : Hid (Y = outT xs (k + 1)) := by show _ = _; rw [HNX.out, HSV.out, ← hY, HX.out]
          have HY0 := Lib.hid hY
          clear hY
          cases xb <;> cases ya
          all_goals
            go_wp2_with (first
              | (go_at_call 37; refine (spec_ValidToken_any _ _ _ _ _ _ ML.out).mono ?_; rintro e w1 ⟨rfl, hb⟩; rw [HZ.out]; have HB1 : Hid (Below W.heap.size W w1) := HW.out.trans (hb.mono HW.out.size); obtain ⟨r0, r1, r2, r3, r4⟩ := HCK.out.below hb hgl; have r5 := (hb.cell (p := ⟨g, m * 5 + 4, none⟩) hgl).trans HR4.out; clear hb p0 p1 p2 p3 p4)
              | (go_at_call 38; refine (HT2.out _).mono ?_; rintro e w2 ⟨rfl, hb⟩; have HB2 : Hid (Below W.heap.size W w2) := HB1.out.trans (hb.mono HB1.out.size); clear hb))
            go_roundw
          all_goals first
            | exact ⟨k + 1, _, by omega, by go_num, rfl, Lib.hid (by rw [← HY.out, ← HY0.out]; first | rfl | (rw [if_pos rfl]) | (rw [if_neg (by decide)]; apply WideShapes.bytes_inj; simp)), HB2, HVN⟩
            | (simp [intOf]; omega)
    · have hkn : k = n := by omega
      have HAV : Hid (allV xs = true) := allV_of fun j x hx => HVK.out j x (by have := (List.getElem?_eq_some_iff.1 hx).1; have := HLN.out; omega) hx
      have HEQ : Hid (X = printT xs) := by show _ = _; unfold printT; rw [if_pos HAV.out, HX.out, hkn, HLN.out]
      go_wp2_with fail
      go_ret
      exact ⟨by rw [← HE.out, ← HEQ.out]; first | done | rfl, HW.out⟩
end Go.Proofs.YtfobjedobojbnabDoor
