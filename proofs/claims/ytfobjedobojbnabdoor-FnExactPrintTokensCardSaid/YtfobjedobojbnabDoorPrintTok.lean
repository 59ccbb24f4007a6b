/- Contract: PrintTokens of the program. Conditions: the tables. -/
import Derived.Test.YtfobjedobojbnabDoorWrite
import Derived.Test.YtfobjedobojbnabDoorToken2
namespace Go.Proofs.YtfobjedobojbnabDoor
open Go Go.RowKit

theorem dec_len : ∀ (k n : Nat), n < 10 ^ (k + 1) → (Lib.decDigits n).length ≤ k + 1
  | k, n, h => by
    rw [Lib.decDigits]
    by_cases h0 : n < 10
    · rw [dif_pos h0]
      simp
    · rw [dif_neg h0, List.length_append]
      cases k with
      | zero => omega
      | succ k =>
        have h1 : n / 10 < 10 ^ (k + 1) := by
          rw [Nat.div_lt_iff_lt_mul (by decide)]
          rw [Nat.pow_succ] at h
          exact h
        have := dec_len k (n / 10) h1
        simp
        omega
theorem quoteS_size (s : ByteArray) (h : canB s = true) : (quoteS s).size ≤ 202 := by
  unfold quoteS
  rw [if_pos h]
  unfold canB at h
  simp only [Bool.and_eq_true, decide_eq_true_eq] at h
  have e1 : (⟨#[34]⟩ : ByteArray).size = 1 := rfl
  have e2 : (⟨#[39]⟩ : ByteArray).size = 1 := rfl
  split
  · rw [ByteArray.size_append, ByteArray.size_append, e1]; omega
  · rw [ByteArray.size_append, ByteArray.size_append, e2]; omega
theorem tokText_size (k n : Int) (t : ByteArray) : (tokText k n t).size ≤ 1000 := by
  unfold tokText
  split
  · next h =>
    have hc := validTok_cases h
    unfold validTok at h
    unfold textOf
    rcases hc with rfl | ⟨rfl, u, rfl, hu⟩ | rfl | rfl | rfl | rfl | rfl | rfl | rfl | rfl
    · rw [if_pos rfl] at h
      simp only [Bool.and_eq_true] at h
      have h1 := h.1
      unfold isNameB at h1
      simp only [Bool.and_eq_true, decide_eq_true_eq] at h1
      rw [if_neg (by decide), if_neg (by decide), if_pos (.inl rfl)]
      omega
    · rw [if_pos rfl, Int.toNat_natCast, size_mk]
      have := dec_len 12 u (by omega)
      omega
    · rw [if_neg (by decide), if_neg (by decide), if_pos rfl] at h
      simp only [Bool.and_eq_true] at h
      rw [if_neg (by decide), if_pos rfl]
      have := quoteS_size t h.1
      omega
    · rw [if_neg (by decide), if_neg (by decide), if_neg (by decide), if_pos rfl] at h
      simp only [Bool.and_eq_true] at h
      rw [if_neg (by decide), if_neg (by decide), if_pos (.inr rfl)]
      have h1 := h.1
      unfold isOp at h1
      simp only [Bool.and_eq_true, decide_eq_true_eq, beq_iff_eq] at h1
      omega
    all_goals exact Nat.le_trans (show _ ≤ 1 from Nat.le_refl _) (by decide)
  · decide

/-- All tokens are valid. -/
def allV (xs : List Tok) : Bool := xs.all fun x => validTok x.k x.n x.t
/-- What PrintTokens answers. -/
def printT (xs : List Tok) : ByteArray := if allV xs = true then outT xs xs.length else ⟨#[]⟩
theorem allV_of {xs : List Tok} (h : ∀ (j : Nat) (x : Tok), xs[j]? = some x → validTok x.k x.n x.t = true) : allV xs = true := by
  unfold allV
  rw [List.all_eq_true]
  intro x hx
  obtain ⟨j, hj⟩ := List.getElem?_of_mem hx
  exact h j x hj
theorem allV_no {xs : List Tok} {j : Nat} {x : Tok} (h : xs[j]? = some x) (h2 : validTok x.k x.n x.t = false) : allV xs = false := by
  unfold allV
  rw [List.all_eq_false]
  exact ⟨x, List.mem_of_getElem? h, by simp [h2]⟩

set_option maxHeartbeats 2000000 in
set_option maxRecDepth 100000 in
theorem impl_PrintTokens_any (A : Option Addr) (n c : Nat) (xs : List Tok) (W : World) (hr : TR W W.heap.size A n xs) (hn : n ≤ 1048576) (hv : ∀ (j : Nat) (x : Tok), xs[j]? = some x → x.t.size ≤ 1048576)
    (hT : Classes W) (hP : PowTab W) (hg : 0 < W.heap.size) (hg2 : 2 < W.heap.size) :
    Calls Tryd.prog 15 #[.slice A n c] W fun e w' => e = .returned (.string (printT xs)) ∧ Below W.heap.size W w' := by
  have HR := Lib.hid hr
  have HV := Lib.hid hv
  have HT := Lib.hid hT
  have HP := Lib.hid hP
  have HG := Lib.hid hg
  have HG2 := Lib.hid hg2
  have HLN : Hid (xs.length = n) := hr.1
  clear hr hv hT hP hg hg2
  obtain ⟨E, hE⟩ : ∃ E, Ending.returned (.string (printT xs)) = E := ⟨_, rfl⟩
  have HE := Lib.hid hE
  rw [hE]
  clear hE
  go_enter Tryd.func15, Tryd.ntmps15
  go_wp2_with fail
  go_loopw [8] (fun i wr => ∃ k : Nat, k ≤ n ∧ i = .int .i64 k ∧ Hid (Below W.heap.size W wr) ∧ Hid (∀ (j : Nat) (x : Tok), j < k → xs[j]? = some x → validTok x.k x.n x.t = true)) (fun i _ => n - (intOf i).toNat)
  case atStart => exact ⟨0, Nat.zero_le _, rfl, Below.refl _ _, Lib.hid (fun j x h => absurd h (by omega))⟩
  case round =>
    obtain ⟨k, hk, rfl, HW, HVK⟩ := hrel
    by_cases hlt : k < n
    · have hl : Hid (k < xs.length) := by have := HR.out.1; show _ < _; omega
      obtain ⟨g, rfl, hg, h1⟩ := HR.out.at_ hlt hl.out
      obtain ⟨p0, p1, p2, p3, p4⟩ := h1.below HW.out hg
      have hxk : xs[k]? = some (xs[k]'hl.out) := List.getElem?_eq_getElem hl.out
      generalize xs[k]'hl.out = x at p0 p1 p2 p3 p4 hxk
      obtain ⟨xk, xn, xt, xb, xa⟩ := x
      dsimp only at p0 p1 p2 p3 p4
      have HXK := Lib.hid hxk
      have b0 : (0 : Int) ≤ (k : Int) := by omega
      have b1 : (k : Int) < (n : Int) := by omega
      have ML : Hid (xt.size ≤ maxLen) := by show _ ≤ _; have h : xt.size ≤ 1048576 := HV.out k _ HXK.out; unfold maxLen; omega
      have HWA : Hid (∀ o, Below W.heap.size W (wr.alloc o)) := fun o => HW.out.alloc HW.out.size o
      obtain ⟨z, hz⟩ : ∃ z, validTok xk xn xt = z := ⟨_, rfl⟩
      have HZ := Lib.hid hz
      clear h1 hxk hg hz
      cases z
      · go_wp2_with (go_at_call 23; refine (impl_ValidToken_any _ _ _ _ _ _ ML.out (HT.out.below (HWA.out _) HG.out)).mono ?_; rintro e w1 ⟨rfl, hb⟩; rw [HZ.out]; have HB1 : Hid (Below W.heap.size W w1) := (HWA.out _).trans (hb.mono (HWA.out _).size); clear hb)
        go_ret
        exact ⟨by rw [← HE.out]; unfold printT; rw [if_neg (by rw [allV_no HXK.out HZ.out]; decide)]; rfl, HB1.out⟩
      · go_wp2_with (go_at_call 23; refine (impl_ValidToken_any _ _ _ _ _ _ ML.out (HT.out.below (HWA.out _) HG.out)).mono ?_; rintro e w1 ⟨rfl, hb⟩; rw [HZ.out]; have HB1 : Hid (Below W.heap.size W w1) := (HWA.out _).trans (hb.mono (HWA.out _).size); clear hb)
        go_roundw
        case rel =>
          refine ⟨k + 1, by omega, by go_num, HB1, Lib.hid (fun j x hj hx => ?_)⟩
          by_cases e : j = k
          · subst e
            rw [HXK.out, Option.some.injEq] at hx
            subst hx
            exact HZ.out
          · exact HVK.out j x (by omega) hx
        case measure => simp [intOf]; omega
    · have HN : Hid (k = n) := by show _ = _; omega
      have HAV : Hid (allV xs = true) := allV_of fun j x hx => HVK.out j x (by have := (List.getElem?_eq_some_iff.1 hx).1; have := HN.out; have := HLN.out; omega) hx
      obtain ⟨w0, hw0⟩ : ∃ w0, wr.alloc (.cells #[.pointer none, .slice none 0 0] 59) = w0 := ⟨_, rfl⟩
      have HW0 : Hid (Below wr.heap.size wr w0) := by show Below _ _ _; rw [← hw0]; exact (Below.refl _ _).alloc (Nat.le_refl _) _
      have HF : Hid (Lib.IsBuilder 59 5 wr.heap.size wr.heap.size [] w0) := by show Lib.IsBuilder _ _ _ _ _ _; rw [← hw0]; exact Lib.fresh_isBuilder _ _ wr
      have HWW : Hid (Below W.heap.size W w0) := HW.out.trans (HW0.out.mono HW.out.size)
      have HTR : Hid (TR w0 wr.heap.size A n xs) := ((HR.out.below HW.out).below (HW0.out.mono HW.out.size)).more HW.out.size
      have HWT := Lib.hid (writeTokens_any wr.heap.size wr.heap.size n c A xs w0 HTR.out HF.out HW0.out.size hn (fun j x hx => ⟨HV.out j x hx, tokText_size _ _ _⟩) (HT.out.below HWW.out HG.out) (var?_below HWW.out gPow HG2.out HP.out) (Nat.lt_of_lt_of_le HG.out HW.out.size) (Nat.lt_of_lt_of_le HG2.out HW.out.size))
      go_wp2_with (first
        | (go_at_call 40; refine HWT.out.mono ?_; rintro e w1 ⟨rfl, hB1, hb1⟩; have HB1 := Lib.hid hB1; have HW1 : Hid (Below W.heap.size W w1) := HWW.out.trans (hb1.mono HW.out.size); have HZ1 : Hid (wr.heap.size ≤ w1.heap.size) := Nat.le_trans HW0.out.size hb1.size; clear hB1 hb1)
        | (go_at_call 41; refine (String_str _ _ _ _ HB1.out HZ1.out).mono ?_; rintro e w2 ⟨rfl, hb⟩; have HW2 := Lib.hid (HW1.out.trans (hb.mono HW.out.size)); clear hb))
      go_ret
      exact ⟨by rw [← HE.out]; unfold printT; rw [if_pos HAV.out, HLN.out]; first | done | rfl, HW2.out⟩
end Go.Proofs.YtfobjedobojbnabDoor
