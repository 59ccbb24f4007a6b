/- Lists of names: which are all names and no two alike; contracts of the model's l17At, l18Names. No condition. -/
import Derived.Test.YtnedihiagaepjaaDoorStsEq
import Derived.Test.YtnedihiagaepjaaDoorName
import Derived.BigQuiet
namespace Go.Proofs.YtnedihiagaepjaaDoor
open Go Go.RowKit

/-- Where x stands first in a list, or -1. -/
def AtP (xs : List St) (x : St) (f : Int) : Prop := (∃ k : Nat, xs[k]? = some x ∧ (∀ j, j < k → xs[j]? ≠ some x) ∧ f = (k : Int)) ∨ ((∀ j : Nat, xs[j]? ≠ some x) ∧ f = -1)
theorem AtP.uniq {xs : List St} {x : St} {f g : Int} (h : AtP xs x f) (h' : AtP xs x g) : f = g := by
  rcases h with ⟨k, h1, h2, rfl⟩ | ⟨h1, rfl⟩
  · rcases h' with ⟨k', h1', h2', rfl⟩ | ⟨h1', _⟩
    · rcases Nat.lt_trichotomy k k' with h | h | h
      · exact absurd h1 (h2' k h)
      · rw [h]
      · exact absurd h1' (h2 k' h)
    · exact absurd h1 (h1' k)
  · rcases h' with ⟨k', h1', _, _⟩ | ⟨_, rfl⟩
    · exact absurd h1' (h1 k')
    · rfl
theorem AtP.ex (xs : List St) (x : St) : ∃ f, AtP xs x f := by
  by_cases h : ∃ k : Nat, xs[k]? = some x
  · have : ∀ n (k : Nat), k ≤ n → xs[k]? = some x → ∃ m : Nat, xs[m]? = some x ∧ ∀ j, j < m → xs[j]? ≠ some x := by
      intro n
      induction n with
      | zero => intro k hk hx; exact ⟨k, hx, fun j hj => by omega⟩
      | succ n ih =>
        intro k hk hx
        by_cases hh : ∃ j, j < k ∧ xs[j]? = some x
        · obtain ⟨j, hj, hxj⟩ := hh
          exact ih j (by omega) hxj
        · exact ⟨k, hx, fun j hj e => hh ⟨j, hj, e⟩⟩
    obtain ⟨k, hk⟩ := h
    obtain ⟨m, h1, h2⟩ := this k k (Nat.le_refl _) hk
    exact ⟨m, .inl ⟨m, h1, h2, rfl⟩⟩
  · exact ⟨-1, .inr ⟨fun j e => h ⟨j, e⟩, rfl⟩⟩
/-- All are names, and no two alike. -/
def OkNames (xs : List St) : Prop := ∀ (i : Nat) (x : St), xs[i]? = some x → isNameB x = true ∧ ∀ j, j < i → xs[j]? ≠ some x

theorem beq_bytes {a b : ByteArray} : (a.toList == b.toList) = true ↔ a = b := by
  rw [beq_iff_eq]
  exact ⟨fun h => WideShapes.bytes_inj (by rw [← ByteArray.toList_eq, ← ByteArray.toList_eq]; exact h), fun h => by rw [h]⟩

set_option maxHeartbeats 1000000 in
set_option maxRecDepth 100000 in
theorem l17At_any (A : Option Addr) (n c : Nat) (xs : List St) (x : St) (f : Int) (W : World) (ha : StI W W.heap.size A n xs) (hf : AtP xs x f) :
    Calls Tryd.prog 74 #[.slice A n c, .string x] W fun e w' => e = .returned (.int .i64 f) ∧ Below W.heap.size W w' := by
  have HA := Lib.hid ha
  have HF := Lib.hid hf
  have hn := ha.2.1
  unfold maxLen at hn
  clear ha hf
  go_enter Tryd.func74, Tryd.ntmps74
  go_wp2_with fail
  go_loopw [5] (fun i wr => ∃ k : Nat, k ≤ n ∧ i = .int .i64 k ∧ Hid (Below W.heap.size W wr) ∧ Hid (∀ (j : Nat), j < k → xs[j]? ≠ some x)) (fun i _ => n - (intOf i).toNat)
  case atStart => exact ⟨0, Nat.zero_le _, rfl, Below.refl _ _, Lib.hid (fun j hj => absurd hj (by omega))⟩
  case round =>
    obtain ⟨k, hk, rfl, HW, HV⟩ := hrel
    by_cases hlt : k < n
    · obtain ⟨b, off, y, rfl, hg, hy, h1, _⟩ := HA.out.at_ hlt
      have q1 := (HW.out.cell (p := ⟨b, off + k, none⟩) hg).trans h1
      have HY := Lib.hid hy
      have HS := Lib.hid (@beq_bytes y x)
      have b0 : (0 : Int) ≤ (k : Int) := by omega
      have b1 : (k : Int) < (n : Int) := by omega
      clear h1 hy hg
      obtain ⟨z, hz⟩ : ∃ z, (y.toList == x.toList) = z := ⟨_, rfl⟩
      have HZ := Lib.hid hz
      cases z
      · go_wp2_with fail
        go_roundw
        case rel =>
          refine ⟨k + 1, by omega, by go_num, HW.out, Lib.hid (fun j hj => ?_)⟩
          by_cases e : j = k
          · rw [e, HY.out]
            intro e2
            have h := HS.out.2 (Option.some.inj e2)
            rw [HZ.out] at h
            cases h
          · exact HV.out j (by omega)
        case measure => simp [intOf]; omega
      · have HE : Hid ((k : Int) = f) := by
          show _ = _
          refine AtP.uniq (.inl ⟨k, ?_, HV.out, rfl⟩) HF.out
          rw [HY.out, HS.out.1 HZ.out]
        go_wp2_with fail
        go_ret
        exact ⟨by rw [← HE.out]; rfl, HW.out⟩
    · have HE : Hid ((-1 : Int) = f) := by
        show _ = _
        refine AtP.uniq (.inr ⟨fun j => ?_, rfl⟩) HF.out
        by_cases e : j < n
        · exact HV.out j (by omega)
        · rw [List.getElem?_eq_none (by have := HA.out.1; omega)]
          exact fun h => by cases h
      go_wp2_with fail
      go_ret
      exact ⟨by rw [← HE.out]; rfl, HW.out⟩

set_option maxHeartbeats 1000000 in
set_option maxRecDepth 100000 in
theorem l18Names_any (A : Option Addr) (n c : Nat) (xs : List St) (W : World) (ha : StI W W.heap.size A n xs) :
    Calls Tryd.prog 68 #[.slice A n c] W fun e w' => e = .returned (.bool (tt (OkNames xs))) ∧ Below W.heap.size W w' := by
  obtain ⟨P, hP⟩ : ∃ P, tt (OkNames xs) = P := ⟨_, rfl⟩
  have HP := Lib.hid hP
  rw [hP]
  have HA := Lib.hid ha
  have hn := ha.2.1
  unfold maxLen at hn
  clear ha hP
  go_enter Tryd.func68, Tryd.ntmps68
  go_wp2_with fail
  go_loopw [3] (fun i wr => ∃ k : Nat, k ≤ n ∧ i = .int .i64 k ∧ Hid (Below W.heap.size W wr) ∧ Hid (∀ (i : Nat) (x : St), i < k → xs[i]? = some x → isNameB x = true ∧ ∀ j, j < i → xs[j]? ≠ some x)) (fun i _ => n - (intOf i).toNat)
  case atStart => exact ⟨0, Nat.zero_le _, rfl, Below.refl _ _, Lib.hid (fun j x hj => absurd hj (by omega))⟩
  case round =>
    obtain ⟨k, hk, rfl, HW, HV⟩ := hrel
    by_cases hlt : k < n
    · obtain ⟨b, off, y, hA, hg, hy, h1, hsz⟩ := HA.out.at_ hlt
      obtain ⟨f, hf⟩ := AtP.ex xs y
      have HFF := Lib.hid hf
      have HI := Lib.hid (HA.out.go HW.out)
      subst hA
      have q1 := (HW.out.cell (p := ⟨b, off + k, none⟩) hg).trans h1
      have HG : Hid (b < W.heap.size) := hg
      have H1 := Lib.hid h1
      have HY := Lib.hid hy
      have HM := Lib.hid hsz
      have b0 : (0 : Int) ≤ (k : Int) := by omega
      have b1 : (k : Int) < (n : Int) := by omega
      clear h1 hy hg hsz hf
      obtain ⟨z, hz⟩ : ∃ z, isNameB y = z := ⟨_, rfl⟩
      have HZ := Lib.hid hz
      clear hz
      cases z
      · have HF : Hid (P = false) := by
          show _ = _
          rw [← HP.out]
          refine tt_false fun e => ?_
          have := (e k y HY.out).1
          rw [HZ.out] at this
          cases this
        go_wp2_with (go_at_call 25; refine (spec_IsName_any y _ HM.out).mono ?_; rintro e w1 ⟨rfl, rfl⟩; rw [HZ.out])
        go_ret
        exact ⟨by rw [HF.out]; rfl, HW.out⟩
      · by_cases he : f = (k : Int)
        · have hne : (f != (k : Int)) = false := by rw [he]; simp
          have HV2 : Hid (∀ (i : Nat) (x : St), i < k + 1 → xs[i]? = some x → isNameB x = true ∧ ∀ j, j < i → xs[j]? ≠ some x) := by
            show ∀ _ _, _
            intro i x hi hx
            by_cases e : i = k
            · subst e
              rw [HY.out, Option.some.injEq] at hx
              subst hx
              refine ⟨HZ.out, ?_⟩
              rcases HFF.out with ⟨q, _, h2, h3⟩ | ⟨_, h3⟩
              · obtain rfl : q = i := by omega
                exact h2
              · omega
            · exact HV.out i x (by omega) hx
          have HE := Lib.hid he
          clear he
          go_wp2_with (first
            | (go_at_call 25; refine (spec_IsName_any y _ HM.out).mono ?_; rintro e w1 ⟨rfl, rfl⟩; rw [HZ.out])
            | (go_at_call 74; refine (l17At_any _ n c xs y f _ HI.out HFF.out).mono ?_; rintro e w2 ⟨rfl, hb⟩; have HW2 : Hid (Below W.heap.size W w2) := HW.out.trans (hb.mono HW.out.size); clear hb))
          go_roundw
          case rel => exact ⟨k + 1, by omega, by go_num, HW2, HV2⟩
          case measure => simp [intOf]; omega
        · have hne : (f != (k : Int)) = true := by simp [bne, he]
          have HF : Hid (P = false) := by
            show _ = _
            rw [← HP.out]
            refine tt_false fun e => he ?_
            exact AtP.uniq HFF.out (.inl ⟨k, HY.out, (e k y HY.out).2, rfl⟩)
          go_wp2_with (first
            | (go_at_call 25; refine (spec_IsName_any y _ HM.out).mono ?_; rintro e w1 ⟨rfl, rfl⟩; rw [HZ.out])
            | (go_at_call 74; refine (l17At_any _ n c xs y f _ HI.out HFF.out).mono ?_; rintro e w2 ⟨rfl, hb⟩; have HW2 : Hid (Below W.heap.size W w2) := HW.out.trans (hb.mono HW.out.size); clear hb))
          go_ret
          exact ⟨by rw [HF.out]; rfl, HW2.out⟩
    · have HE : Hid (P = true) := by
        show _ = _
        rw [← HP.out]
        refine tt_true fun i x hx => HV.out i x ?_ hx
        have := (List.getElem?_eq_some_iff.1 hx).1
        have := HA.out.1
        omega
      go_wp2_with fail
      go_ret
      exact ⟨by rw [HE.out]; rfl, HW.out⟩
end Go.Proofs.YtnedihiagaepjaaDoor
