/- Contracts: l11Digits, l16Below, l16Digits of the model; strconv.FormatInt at every int64. Condition: the table of powers. -/
import Derived.Test.YtdlhoakcpdaboaaDoorDigP
import Derived.Test.YtdlhoakcpdaboaaDoorRw
import Derived.Test.YtdlhoakcpdaboaaDoorMark0
import Derived.IntWalk
import Derived.Deep.RegionHeld3
import Derived.Deep.RegionWith
namespace Go.Proofs.YtdlhoakcpdaboaaDoor
open Go Go.RowKit

theorem dec_len (u : Nat) (h : u ≤ 9223372036854775808) : (Lib.decDigits u).length ≤ 20 := Nat.le_trans (dec_short 19 u (by omega)) (by omega)
theorem conv_at {g : Nat} {w : World} {x : Int} (h : w.cell? ⟨g, 0, none⟩ = some (.int .u8 x)) : (convert 32 9 (.slice (some ⟨g, 0, none⟩) 1 1)).run Tryd.prog w = .ok (.string ⟨#[UInt8.ofNat x.toNat]⟩) w := by
  rw [run_convert_bytes_string _ _ _ 5 _ _ _ Tryd.underlying32 Tryd.underlying5 Tryd.underlying9]
  have hl : (loadCells ⟨g, 0, none⟩ 1).run Tryd.prog w = .ok (([x] : List Int).map (Value.int .u8)).toArray w := by
    refine run_loadCells_list (P := Tryd.prog) _ ⟨g, 0, none⟩ [Value.int .u8 x] fun j v hv => ?_
    match j, hv with
    | 0, hv => simp at hv; subst hv; simpa [Addr.add] using h
  exact run_bytesToString (P := Tryd.prog) _ ⟨g, 0, none⟩ 1 1 [x] hl

set_option maxHeartbeats 2000000 in
set_option maxRecDepth 100000 in
theorem l11Digits_any (u : Nat) : u ≤ 9223372036854775807 → ∀ W, Calls Tryd.prog 13 #[.int .i64 u] W fun e w' => e = .returned (.string ⟨(Lib.decDigits u).toArray⟩) ∧ Below W.heap.size W w' := by
  induction u using Nat.strongRecOn with
  | ind u ih =>
    intro hu W
    by_cases h10 : u < 10
    · have d0 : decide ((u : Int) < 10) = true := by simp; omega
      have hcv := conv_one W (48 + (u : Int))
      obtain ⟨c, hc⟩ : ∃ c, UInt8.ofNat (48 + (u : Int)).toNat = c := ⟨_, rfl⟩
      rw [hc] at hcv
      have HE : Hid ((⟨(Lib.decDigits u).toArray⟩ : ByteArray) = ⟨#[c]⟩) := by show _ = _; rw [dec_one h10, ← hc, show (48 + (u : Int)).toNat = 48 + u by omega, UInt8.ofNat_add]; rfl
      clear hc
      have g1 : (0 : Int) ≤ (u : Int) := by omega
      have g2 : (u : Int) ≤ 9 := by omega
      clear ih hu
      go_enter Tryd.func13, Tryd.ntmps13
      go_wp2_with fail
      go_ret
      exact ⟨str_ret HE.out.symm, by repeat (first | exact Below.refl _ _ | exact below_alloc _ _)⟩
    · have d0 : decide ((u : Int) < 10) = false := by simp; omega
      have IH : Hid (∀ w, Calls Tryd.prog 13 #[.int .i64 ((u : Int) / 10)] w fun e w' => e = .returned (.string ⟨(Lib.decDigits (u / 10)).toArray⟩) ∧ Below w.heap.size w w') := fun w => by
        have := ih (u / 10) (by omega) (by omega) w
        rw [show ((u / 10 : Nat) : Int) = (u : Int) / 10 by omega] at this
        exact this
      have hl := dec_len (u / 10) (by omega)
      have b0 : (0 : Int) ≤ (u : Int) % 10 := by omega
      have b1 : (u : Int) % 10 ≤ 9 := by omega
      have b2 : (0 : Int) ≤ (u : Int) := by omega
      obtain ⟨c, hc⟩ : ∃ c, UInt8.ofNat (48 + (u : Int) % 10).toNat = c := ⟨_, rfl⟩
      have HE : Hid ((⟨(Lib.decDigits u).toArray⟩ : ByteArray) = ⟨(Lib.decDigits (u / 10)).toArray⟩ ++ ⟨#[c]⟩) := by show _ = _; rw [dec_step (by omega), mk_append, ← hc, show (48 + (u : Int) % 10).toNat = 48 + u % 10 by omega, UInt8.ofNat_add]; rfl
      have HCK : Hid (∀ (g : Nat) (w : World), w.cell? ⟨g, 0, none⟩ = some (.int .u8 (48 + (u : Int) % 10)) → (convert 32 9 (.slice (some ⟨g, 0, none⟩) 1 1)).run Tryd.prog w = .ok (.string ⟨#[c]⟩) w) := fun g w h => by rw [← hc]; exact conv_at h
      clear hc
      have hz : (⟨(Lib.decDigits (u / 10)).toArray⟩ : ByteArray).size ≤ 20 := by have := size_mk (Lib.decDigits (u / 10)); omega
      generalize (⟨(Lib.decDigits (u / 10)).toArray⟩ : ByteArray) = x at IH HE hz
      have n1 : ¬ 9223372036854775807 < x.size + 1 := by omega
      clear ih hl h10
      go_enter Tryd.func13, Tryd.ntmps13
      go_wp2_with fail
      have w0 : (u : Int).tmod 10 = (u : Int) % 10 := IntWalk.rem_in _ _ (by omega)
      have w1 : IntKind.i64.wrap ((u : Int) / 10) = (u : Int) / 10 := IntWalk.i64_in _ (by omega)
      have w2 : IntKind.i64.wrap ((u : Int) % 10) = (u : Int) % 10 := IntWalk.i64_in _ (by omega)
      have w3 : IntKind.i64.wrap (48 + (u : Int) % 10) = 48 + (u : Int) % 10 := IntWalk.i64_in _ (by omega)
      have w4 : IntKind.u8.wrap (48 + (u : Int) % 10) = 48 + (u : Int) % 10 := IntWalk.u8_in _ (by omega)
      have hck : ∀ (g : Nat) (w : World), w.cell? ⟨g, 0, none⟩ = some (.int .u8 (48 + (u : Int) % 10)) → (convert 32 9 (.slice (some ⟨g, 0, none⟩) 1 1)).run Tryd.prog w = .ok (.string ⟨#[c]⟩) w := HCK.out
      go_region_with (go_at_call 13; refine Calls.mono (IH.out _) ?_; rintro e w1 ⟨rfl, hb⟩; have HB1 := Lib.hid hb; have hk := fun (p : Addr) (h : p.block < _) => hb.cell (p := p) h; have hz1 := hb.size; clear hb)
      all_goals (try go_wp2_with fail)
      all_goals go_ret
      all_goals refine ⟨str_ret HE.out.symm, ?_⟩
      all_goals have h0 : Below W.heap.size W W.drew := (Below.refl _ _).drew
      all_goals first
        | exact (h0.trans HB1.out).alloc (h0.trans HB1.out).size _
        | exact (h0.alloc (Nat.le_refl _) _).trans (HB1.out.mono (by simp))

set_option maxHeartbeats 2000000 in
set_option maxRecDepth 100000 in
theorem l16Below_any (u : Nat) : 0 < u → u ≤ 9223372036854775808 → ∀ W, Calls Tryd.prog 12 #[.int .i64 (-(u : Int))] W fun e w' => e = .returned (.string ⟨(Lib.decDigits u).toArray⟩) ∧ Below W.heap.size W w' := by
  induction u using Nat.strongRecOn with
  | ind u ih =>
    intro hu0 hu W
    have y2 : ¬ (u : Int) = 0 := by omega
    have b0 : (0 : Int) ≤ (u : Int) % 10 := by omega
    have b1 : (u : Int) % 10 ≤ 9 := by omega
    have t1 : (-(u : Int)).tmod 10 = -((u : Int) % 10) := by rw [Int.neg_tmod, Int.tmod_eq_emod_of_nonneg (by omega)]
    have t2 : (-(u : Int)).tdiv 10 = -((u : Int) / 10) := by rw [Int.neg_tdiv, Int.tdiv_eq_ediv_of_nonneg (by omega)]
    have t3 : 0 ≤ (u : Int) / 10 := by omega
    have t4 : (u : Int) / 10 ≤ 922337203685477580 := by omega
    have hcv := conv_one W (48 + (u : Int) % 10)
    obtain ⟨c, hc⟩ : ∃ c, UInt8.ofNat (48 + (u : Int) % 10).toNat = c := ⟨_, rfl⟩
    rw [hc] at hcv
    have HCC : Hid (c = 48 + UInt8.ofNat (u % 10)) := by show _ = _; rw [← hc, show (48 + (u : Int) % 10).toNat = 48 + u % 10 by omega, UInt8.ofNat_add]; rfl
    clear hc
    by_cases h10 : u < 10
    · have d0 : decide (-10 < -(u : Int)) = true := by simp; omega
      have d1 : decide ((u : Int) < 10) = true := by simp; omega
      have HE : Hid ((⟨(Lib.decDigits u).toArray⟩ : ByteArray) = ⟨#[c]⟩) := by show _ = _; rw [HCC.out, dec_one h10, Nat.mod_eq_of_lt h10]
      clear ih hu t2
      go_enter Tryd.func12, Tryd.ntmps12
      go_wp2_with fail
      go_ret
      exact ⟨str_ret HE.out.symm, by repeat (first | exact Below.refl _ _ | exact below_alloc _ _)⟩
    · have d0 : decide (-10 < -(u : Int)) = false := by simp; omega
      have d1 : decide ((u : Int) < 10) = false := by simp; omega
      have IH : Hid (∀ w, Calls Tryd.prog 12 #[.int .i64 (-((u : Int) / 10))] w fun e w' => e = .returned (.string ⟨(Lib.decDigits (u / 10)).toArray⟩) ∧ Below w.heap.size w w') := fun w => by
        have := ih (u / 10) (by omega) (by omega) (by omega) w
        rw [show ((u / 10 : Nat) : Int) = (u : Int) / 10 by omega] at this
        exact this
      have hl := dec_len (u / 10) (by omega)
      have HE : Hid ((⟨(Lib.decDigits u).toArray⟩ : ByteArray) = ⟨(Lib.decDigits (u / 10)).toArray⟩ ++ ⟨#[c]⟩) := by show _ = _; rw [HCC.out, dec_step (by omega), mk_append]
      have hz : (⟨(Lib.decDigits (u / 10)).toArray⟩ : ByteArray).size ≤ 20 := by have := size_mk (Lib.decDigits (u / 10)); omega
      generalize (⟨(Lib.decDigits (u / 10)).toArray⟩ : ByteArray) = x at IH HE hz
      clear ih hl h10
      go_enter Tryd.func12, Tryd.ntmps12
      go_wp2_with (go_at_call 12; refine Calls.mono (IH.out _) ?_; rintro e w1 ⟨rfl, hb⟩; have HB1 : Hid (Below W.heap.size W w1) := (below_alloc _ _).trans (hb.mono (by simp)); clear hb)
      go_ret
      exact ⟨str_ret HE.out.symm, HB1.out⟩

theorem l16Digits_any (n : Int) (W : World) (h0 : -9223372036854775808 ≤ n) (h1 : n ≤ 9223372036854775807) :
    Calls Tryd.prog 8 #[.int .i64 n] W fun e w' => e = .returned (.string (itoaE n)) ∧ Below W.heap.size W w' := by
  by_cases h : n < 0
  · obtain ⟨u, rfl⟩ : ∃ u : Nat, n = -(u : Int) := ⟨n.natAbs, by omega⟩
    have d0 : decide (-(u : Int) < 0) = true := by simp; omega
    have IH := Lib.hid (l16Below_any u (by omega) (by omega))
    have HE := Lib.hid (itoa_neg u (by omega))
    have hz : (⟨(Lib.decDigits u).toArray⟩ : ByteArray).size ≤ 20 := by have := size_mk (Lib.decDigits u); have := dec_len u (by omega); omega
    generalize (⟨(Lib.decDigits u).toArray⟩ : ByteArray) = x at IH HE hz
    generalize itoaE (-(u : Int)) = q at HE ⊢
    go_enter Tryd.func8, Tryd.ntmps8
    go_wp2_with (go_at_call 12; refine Calls.mono (IH.out _) ?_; rintro e w1 ⟨rfl, hb⟩; have HB1 := Lib.hid hb; clear hb)
    go_ret
    exact ⟨str_ret HE.out.symm, HB1.out⟩
  · obtain ⟨u, rfl⟩ : ∃ u : Nat, n = (u : Int) := ⟨n.toNat, by omega⟩
    have d0 : decide ((u : Int) < 0) = false := by simp; try omega
    have IH := Lib.hid (l11Digits_any u (by omega))
    rw [itoa_pos]
    generalize (⟨(Lib.decDigits u).toArray⟩ : ByteArray) = x at IH
    go_enter Tryd.func8, Tryd.ntmps8
    go_wp2_with (go_at_call 13; refine Calls.mono (IH.out _) ?_; rintro e w1 ⟨rfl, hb⟩; have HB1 := Lib.hid hb; clear hb)
    go_ret
    exact ⟨rfl, HB1.out⟩
end Go.Proofs.YtdlhoakcpdaboaaDoor
