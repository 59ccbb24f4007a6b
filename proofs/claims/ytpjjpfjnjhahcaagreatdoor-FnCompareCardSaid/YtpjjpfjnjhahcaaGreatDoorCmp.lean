/- Contract: Compared of the model. No condition. -/
import Derived.Test.YtpjjpfjnjhahcaaGreatDoorLawTwo
import Derived.Test.YtpjjpfjnjhahcaaGreatDoorConvS
import Derived.Test.YtpjjpfjnjhahcaaGreatDoorToInt2
import Derived.Test.YtpjjpfjnjhahcaaGreatDoorIn
import Derived.Test.YtpjjpfjnjhahcaaGreatDoorCmpV
namespace Go.Proofs.YtpjjpfjnjhahcaaGreatDoor
open Go Go.RowKit

theorem L2.newI (W : World) (a b : Va) : ∀ X, X = (W.alloc (.cells #[.int .i64 a.k, .int .i64 a.n, .string a.t, .int .i64 a.r] 25)).alloc (.cells #[.int .i64 b.k, .int .i64 b.n, .string b.t, .int .i64 b.r] 25) → L2 W X a b := fun X e => by
  obtain ⟨h1, h2, h3, h4⟩ := two_newV W 25 a b X e
  exact ⟨h1, h2, h3, by omega⟩
/-- Whether a comparison of integers holds. -/
def holdI (op x y : Int) : Bool := if op = 1 then x == y else if op = 2 then x != y else if op = 3 then decide (x < y) else if op = 4 then decide (x ≤ y) else if op = 5 then decide (y < x) else decide (y ≤ x)
noncomputable def tiI (a : Va) : Int := Classical.choose (tiE_ex a.k a.n a.t a.r)
noncomputable def tiB (a : Va) : Bool := Classical.choose (Classical.choose_spec (tiE_ex a.k a.n a.t a.r))
theorem ti_eq (a : Va) : tiE a.k a.n a.t a.r = .returned (.tuple #[.int .i64 (tiI a), .bool (tiB a)]) := Classical.choose_spec (Classical.choose_spec (tiE_ex a.k a.n a.t a.r))
/-- Whether a text lies behind another. -/
def gtS (x y : ByteArray) : Bool := !Op.bytesLess x.toList y.toList && !(x.toList == y.toList)
def txtGt (a b : Va) : Bool := gtS (ttS a.k a.n a.t a.r) (ttS b.k b.n b.t b.r)
/-- What Compared answers. -/
noncomputable def cmpV (op : Int) (a b : Va) : Bool × Int :=
  if (a.ok && b.ok && decide (1 ≤ op ∧ op ≤ 9)) = false then (false, 1) else if op = 7 then (a.same b, 0) else if op = 8 then (!a.same b, 0)
  else if op = 9 then ((ttB a.k a.n a.t a.r && ttB b.k b.n b.t b.r) && txtGt a b, if (ttB a.k a.n a.t a.r && ttB b.k b.n b.t b.r) = true then 0 else 4)
  else ((tiB a && tiB b) && holdI op (tiI a) (tiI b), if (tiB a && tiB b) = true then 0 else 4)
theorem l10Holds_any (op x y : Int) (W : World) (h : 1 ≤ op ∧ op ≤ 6) :
    Calls Tryz.prog 20 #[.int .i64 op, .int .i64 x, .int .i64 y] W fun e w' => e = .returned (.bool (holdI op x y)) ∧ W = w' := by
  have hop : op = 1 ∨ op = 2 ∨ op = 3 ∨ op = 4 ∨ op = 5 ∨ op = 6 := by omega
  clear h
  rcases hop with rfl | rfl | rfl | rfl | rfl | rfl
  · go_enter Tryz.func20, Tryz.ntmps20
    go_wp2
    go_ret
    exact ⟨by simp [holdI], rfl⟩
  · go_enter Tryz.func20, Tryz.ntmps20
    go_wp2
    go_ret
    exact ⟨by simp [holdI], rfl⟩
  · go_enter Tryz.func20, Tryz.ntmps20
    go_wp2
    go_ret
    exact ⟨by simp [holdI], rfl⟩
  · go_enter Tryz.func20, Tryz.ntmps20
    go_wp2
    go_ret
    exact ⟨by simp [holdI], rfl⟩
  · go_enter Tryz.func20, Tryz.ntmps20
    go_wp2
    go_ret
    exact ⟨by simp [holdI], rfl⟩
  · go_enter Tryz.func20, Tryz.ntmps20
    go_wp2
    go_ret
    exact ⟨by simp [holdI], rfl⟩

set_option maxHeartbeats 800000 in
set_option maxRecDepth 100000 in
theorem spec_cmp_badA (op : Int) (a b : Va) (W : World) (ha : a.t.size ≤ 1048576) (hb : b.t.size ≤ 1048576)  (f0 : validV a.k a.n a.t a.r = false) :
    Calls Tryz.prog 7 #[.int .i64 op, a.ag, b.ag] W fun e w' => e = .returned (.tuple #[.bool false, .int .i64 1]) ∧ Below W.heap.size W w' := by
  have H0 := Lib.hid (L2.newI W a b)
  have HA := Lib.hid ha
  have HB := Lib.hid hb
  have HMA : Hid (a.t.size ≤ maxLen) := Nat.le_trans ha (by unfold maxLen; omega)
  have HMB : Hid (b.t.size ≤ maxLen) := Nat.le_trans hb (by unfold maxLen; omega)
  have F0 := Lib.hid f0
  clear ha hb f0
  have K0 : True := trivial
  have K1 : True := trivial
  have K2 : True := trivial
  have K3 : True := trivial
  have K4 : True := trivial
  have K5 : True := trivial
  unfold Va.ag
  go_enter Tryz.func7, Tryz.ntmps7
  go_wp2_with (first
    | (go_at_call 16; have tk0 := K0; clear tk0 K0; have HH := Lib.hid (H0.out _ rfl); refine (spec_ValidValue_any a.k a.n a.t a.r _ HMA.out).mono ?_; rintro e w1 ⟨he, hb⟩; rw [F0.out] at he; subst he; replace HH := Lib.hid (HH.out.go hb); clear hb; obtain ⟨⟨x0, x1, x2, x3⟩, ⟨y0, y1, y2, y3⟩, _, lz⟩ := HH.out))
  go_ret2
  exact ⟨rfl, HH.out.2.2.1⟩

set_option maxHeartbeats 800000 in
set_option maxRecDepth 100000 in
theorem spec_cmp_badB (op : Int) (a b : Va) (W : World) (ha : a.t.size ≤ 1048576) (hb : b.t.size ≤ 1048576)  (f0 : validV a.k a.n a.t a.r = true) (f1 : validV b.k b.n b.t b.r = false) :
    Calls Tryz.prog 7 #[.int .i64 op, a.ag, b.ag] W fun e w' => e = .returned (.tuple #[.bool false, .int .i64 1]) ∧ Below W.heap.size W w' := by
  have H0 := Lib.hid (L2.newI W a b)
  have HA := Lib.hid ha
  have HB := Lib.hid hb
  have HMA : Hid (a.t.size ≤ maxLen) := Nat.le_trans ha (by unfold maxLen; omega)
  have HMB : Hid (b.t.size ≤ maxLen) := Nat.le_trans hb (by unfold maxLen; omega)
  have F0 := Lib.hid f0
  have F1 := Lib.hid f1
  clear ha hb f0 f1
  have K0 : True := trivial
  have K1 : True := trivial
  have K2 : True := trivial
  have K3 : True := trivial
  have K4 : True := trivial
  have K5 : True := trivial
  unfold Va.ag
  go_enter Tryz.func7, Tryz.ntmps7
  go_wp2_with (first
    | (go_at_call 16; have tk0 := K0; clear tk0 K0; have HH := Lib.hid (H0.out _ rfl); refine (spec_ValidValue_any a.k a.n a.t a.r _ HMA.out).mono ?_; rintro e w1 ⟨he, hb⟩; rw [F0.out] at he; subst he; replace HH := Lib.hid (HH.out.go hb); clear hb; obtain ⟨⟨x0, x1, x2, x3⟩, ⟨y0, y1, y2, y3⟩, _, lz⟩ := HH.out)
    | (go_at_call 16; have tk1 := K1; clear tk1 K1; have HQ := spec_ValidValue_any b.k b.n b.t b.r w1 HMB.out; rw [F1.out] at HQ; refine Calls.mono HQ ?_; clear HQ x0 x1 x2 x3 y0 y1 y2 y3 lz; rintro e w1 ⟨he, hb⟩; subst he; replace HH := Lib.hid (HH.out.go hb); clear hb; obtain ⟨⟨x0, x1, x2, x3⟩, ⟨y0, y1, y2, y3⟩, _, lz⟩ := HH.out))
  go_ret2
  exact ⟨rfl, HH.out.2.2.1⟩

set_option maxHeartbeats 800000 in
set_option maxRecDepth 100000 in
theorem spec_cmp_badO (op : Int) (a b : Va) (W : World) (ha : a.t.size ≤ 1048576) (hb : b.t.size ≤ 1048576)  (f0 : validV a.k a.n a.t a.r = true) (f1 : validV b.k b.n b.t b.r = true) (fo : decide (1 ≤ op ∧ op ≤ 9) = false) :
    Calls Tryz.prog 7 #[.int .i64 op, a.ag, b.ag] W fun e w' => e = .returned (.tuple #[.bool false, .int .i64 1]) ∧ Below W.heap.size W w' := by
  have H0 := Lib.hid (L2.newI W a b)
  have HA := Lib.hid ha
  have HB := Lib.hid hb
  have HMA : Hid (a.t.size ≤ maxLen) := Nat.le_trans ha (by unfold maxLen; omega)
  have HMB : Hid (b.t.size ≤ maxLen) := Nat.le_trans hb (by unfold maxLen; omega)
  have F0 := Lib.hid f0
  have F1 := Lib.hid f1
  have FO := Lib.hid fo
  clear ha hb f0 f1 fo
  have K0 : True := trivial
  have K1 : True := trivial
  have K2 : True := trivial
  have K3 : True := trivial
  have K4 : True := trivial
  have K5 : True := trivial
  unfold Va.ag
  go_enter Tryz.func7, Tryz.ntmps7
  go_wp2_with (first
    | (go_at_call 16; have tk0 := K0; clear tk0 K0; have HH := Lib.hid (H0.out _ rfl); refine (spec_ValidValue_any a.k a.n a.t a.r _ HMA.out).mono ?_; rintro e w1 ⟨he, hb⟩; rw [F0.out] at he; subst he; replace HH := Lib.hid (HH.out.go hb); clear hb; obtain ⟨⟨x0, x1, x2, x3⟩, ⟨y0, y1, y2, y3⟩, _, lz⟩ := HH.out)
    | (go_at_call 16; have tk1 := K1; clear tk1 K1; have HQ := spec_ValidValue_any b.k b.n b.t b.r w1 HMB.out; rw [F1.out] at HQ; refine Calls.mono HQ ?_; clear HQ x0 x1 x2 x3 y0 y1 y2 y3 lz; rintro e w1 ⟨he, hb⟩; subst he; replace HH := Lib.hid (HH.out.go hb); clear hb; obtain ⟨⟨x0, x1, x2, x3⟩, ⟨y0, y1, y2, y3⟩, _, lz⟩ := HH.out)
    | (go_at_call 17; refine (l00In_any _ _ _ _).mono ?_; rintro e w9 ⟨rfl, rfl⟩; rw [FO.out]))
  go_ret2
  exact ⟨rfl, HH.out.2.2.1⟩

set_option maxHeartbeats 800000 in
set_option maxRecDepth 100000 in
theorem spec_cmp_7 (a b : Va) (W : World) (ha : a.t.size ≤ 1048576) (hb : b.t.size ≤ 1048576)  (f0 : validV a.k a.n a.t a.r = true) (f1 : validV b.k b.n b.t b.r = true) :
    Calls Tryz.prog 7 #[.int .i64 7, a.ag, b.ag] W fun e w' => e = .returned (.tuple #[.bool (a.same b), .int .i64 0]) ∧ Below W.heap.size W w' := by
  have H0 := Lib.hid (L2.newI W a b)
  have HA := Lib.hid ha
  have HB := Lib.hid hb
  have HMA : Hid (a.t.size ≤ maxLen) := Nat.le_trans ha (by unfold maxLen; omega)
  have HMB : Hid (b.t.size ≤ maxLen) := Nat.le_trans hb (by unfold maxLen; omega)
  have F0 := Lib.hid f0
  have F1 := Lib.hid f1
  clear ha hb f0 f1
  have K0 : True := trivial
  have K1 : True := trivial
  have K2 : True := trivial
  have K3 : True := trivial
  have K4 : True := trivial
  have K5 : True := trivial
  unfold Va.ag
  unfold Va.same sameV
  obtain ⟨z1, h1⟩ : ∃ z, (a.k == b.k) = z := ⟨_, rfl⟩
  obtain ⟨z2, h2⟩ : ∃ z, (a.n == b.n) = z := ⟨_, rfl⟩
  obtain ⟨z3, h3⟩ : ∃ z, (a.t.toList == b.t.toList) = z := ⟨_, rfl⟩
  obtain ⟨z4, h4⟩ : ∃ z, (a.r == b.r) = z := ⟨_, rfl⟩
  rw [h1, h2, h3, h4]
  cases z1
  · go_enter Tryz.func7, Tryz.ntmps7
    go_wp2_with (first
      | (go_at_call 16; have tk0 := K0; clear tk0 K0; have HH := Lib.hid (H0.out _ rfl); refine (spec_ValidValue_any a.k a.n a.t a.r _ HMA.out).mono ?_; rintro e w1 ⟨he, hb⟩; rw [F0.out] at he; subst he; replace HH := Lib.hid (HH.out.go hb); clear hb; obtain ⟨⟨x0, x1, x2, x3⟩, ⟨y0, y1, y2, y3⟩, _, lz⟩ := HH.out)
      | (go_at_call 16; have tk1 := K1; clear tk1 K1; have HQ := spec_ValidValue_any b.k b.n b.t b.r w1 HMB.out; rw [F1.out] at HQ; refine Calls.mono HQ ?_; clear HQ x0 x1 x2 x3 y0 y1 y2 y3 lz; rintro e w1 ⟨he, hb⟩; subst he; replace HH := Lib.hid (HH.out.go hb); clear hb; obtain ⟨⟨x0, x1, x2, x3⟩, ⟨y0, y1, y2, y3⟩, _, lz⟩ := HH.out)
      | (go_at_call 17; refine (l00In_any _ _ _ _).mono ?_; rintro e w9 ⟨rfl, rfl⟩; rw [show decide ((1 : Int) ≤ 7 ∧ (7 : Int) ≤ 9) = true from rfl]))
    go_ret2
    exact ⟨rfl, HH.out.2.2.1⟩
  cases z2
  · go_enter Tryz.func7, Tryz.ntmps7
    go_wp2_with (first
      | (go_at_call 16; have tk0 := K0; clear tk0 K0; have HH := Lib.hid (H0.out _ rfl); refine (spec_ValidValue_any a.k a.n a.t a.r _ HMA.out).mono ?_; rintro e w1 ⟨he, hb⟩; rw [F0.out] at he; subst he; replace HH := Lib.hid (HH.out.go hb); clear hb; obtain ⟨⟨x0, x1, x2, x3⟩, ⟨y0, y1, y2, y3⟩, _, lz⟩ := HH.out)
      | (go_at_call 16; have tk1 := K1; clear tk1 K1; have HQ := spec_ValidValue_any b.k b.n b.t b.r w1 HMB.out; rw [F1.out] at HQ; refine Calls.mono HQ ?_; clear HQ x0 x1 x2 x3 y0 y1 y2 y3 lz; rintro e w1 ⟨he, hb⟩; subst he; replace HH := Lib.hid (HH.out.go hb); clear hb; obtain ⟨⟨x0, x1, x2, x3⟩, ⟨y0, y1, y2, y3⟩, _, lz⟩ := HH.out)
      | (go_at_call 17; refine (l00In_any _ _ _ _).mono ?_; rintro e w9 ⟨rfl, rfl⟩; rw [show decide ((1 : Int) ≤ 7 ∧ (7 : Int) ≤ 9) = true from rfl]))
    go_ret2
    exact ⟨rfl, HH.out.2.2.1⟩
  cases z3
  · go_enter Tryz.func7, Tryz.ntmps7
    go_wp2_with (first
      | (go_at_call 16; have tk0 := K0; clear tk0 K0; have HH := Lib.hid (H0.out _ rfl); refine (spec_ValidValue_any a.k a.n a.t a.r _ HMA.out).mono ?_; rintro e w1 ⟨he, hb⟩; rw [F0.out] at he; subst he; replace HH := Lib.hid (HH.out.go hb); clear hb; obtain ⟨⟨x0, x1, x2, x3⟩, ⟨y0, y1, y2, y3⟩, _, lz⟩ := HH.out)
      | (go_at_call 16; have tk1 := K1; clear tk1 K1; have HQ := spec_ValidValue_any b.k b.n b.t b.r w1 HMB.out; rw [F1.out] at HQ; refine Calls.mono HQ ?_; clear HQ x0 x1 x2 x3 y0 y1 y2 y3 lz; rintro e w1 ⟨he, hb⟩; subst he; replace HH := Lib.hid (HH.out.go hb); clear hb; obtain ⟨⟨x0, x1, x2, x3⟩, ⟨y0, y1, y2, y3⟩, _, lz⟩ := HH.out)
      | (go_at_call 17; refine (l00In_any _ _ _ _).mono ?_; rintro e w9 ⟨rfl, rfl⟩; rw [show decide ((1 : Int) ≤ 7 ∧ (7 : Int) ≤ 9) = true from rfl]))
    go_ret2
    exact ⟨rfl, HH.out.2.2.1⟩
  cases z4
  all_goals
    go_enter Tryz.func7, Tryz.ntmps7
    go_wp2_with (first
      | (go_at_call 16; have tk0 := K0; clear tk0 K0; have HH := Lib.hid (H0.out _ rfl); refine (spec_ValidValue_any a.k a.n a.t a.r _ HMA.out).mono ?_; rintro e w1 ⟨he, hb⟩; rw [F0.out] at he; subst he; replace HH := Lib.hid (HH.out.go hb); clear hb; obtain ⟨⟨x0, x1, x2, x3⟩, ⟨y0, y1, y2, y3⟩, _, lz⟩ := HH.out)
      | (go_at_call 16; have tk1 := K1; clear tk1 K1; have HQ := spec_ValidValue_any b.k b.n b.t b.r w1 HMB.out; rw [F1.out] at HQ; refine Calls.mono HQ ?_; clear HQ x0 x1 x2 x3 y0 y1 y2 y3 lz; rintro e w1 ⟨he, hb⟩; subst he; replace HH := Lib.hid (HH.out.go hb); clear hb; obtain ⟨⟨x0, x1, x2, x3⟩, ⟨y0, y1, y2, y3⟩, _, lz⟩ := HH.out)
      | (go_at_call 17; refine (l00In_any _ _ _ _).mono ?_; rintro e w9 ⟨rfl, rfl⟩; rw [show decide ((1 : Int) ≤ 7 ∧ (7 : Int) ≤ 9) = true from rfl]))
    go_ret2
    exact ⟨rfl, HH.out.2.2.1⟩

set_option maxHeartbeats 800000 in
set_option maxRecDepth 100000 in
theorem spec_cmp_8 (a b : Va) (W : World) (ha : a.t.size ≤ 1048576) (hb : b.t.size ≤ 1048576)  (f0 : validV a.k a.n a.t a.r = true) (f1 : validV b.k b.n b.t b.r = true) :
    Calls Tryz.prog 7 #[.int .i64 8, a.ag, b.ag] W fun e w' => e = .returned (.tuple #[.bool (!a.same b), .int .i64 0]) ∧ Below W.heap.size W w' := by
  have H0 := Lib.hid (L2.newI W a b)
  have HA := Lib.hid ha
  have HB := Lib.hid hb
  have HMA : Hid (a.t.size ≤ maxLen) := Nat.le_trans ha (by unfold maxLen; omega)
  have HMB : Hid (b.t.size ≤ maxLen) := Nat.le_trans hb (by unfold maxLen; omega)
  have F0 := Lib.hid f0
  have F1 := Lib.hid f1
  clear ha hb f0 f1
  have K0 : True := trivial
  have K1 : True := trivial
  have K2 : True := trivial
  have K3 : True := trivial
  have K4 : True := trivial
  have K5 : True := trivial
  unfold Va.ag
  unfold Va.same sameV
  obtain ⟨z1, h1⟩ : ∃ z, (a.k == b.k) = z := ⟨_, rfl⟩
  obtain ⟨z2, h2⟩ : ∃ z, (a.n == b.n) = z := ⟨_, rfl⟩
  obtain ⟨z3, h3⟩ : ∃ z, (a.t.toList == b.t.toList) = z := ⟨_, rfl⟩
  obtain ⟨z4, h4⟩ : ∃ z, (a.r == b.r) = z := ⟨_, rfl⟩
  rw [h1, h2, h3, h4]
  cases z1
  · go_enter Tryz.func7, Tryz.ntmps7
    go_wp2_with (first
      | (go_at_call 16; have tk0 := K0; clear tk0 K0; have HH := Lib.hid (H0.out _ rfl); refine (spec_ValidValue_any a.k a.n a.t a.r _ HMA.out).mono ?_; rintro e w1 ⟨he, hb⟩; rw [F0.out] at he; subst he; replace HH := Lib.hid (HH.out.go hb); clear hb; obtain ⟨⟨x0, x1, x2, x3⟩, ⟨y0, y1, y2, y3⟩, _, lz⟩ := HH.out)
      | (go_at_call 16; have tk1 := K1; clear tk1 K1; have HQ := spec_ValidValue_any b.k b.n b.t b.r w1 HMB.out; rw [F1.out] at HQ; refine Calls.mono HQ ?_; clear HQ x0 x1 x2 x3 y0 y1 y2 y3 lz; rintro e w1 ⟨he, hb⟩; subst he; replace HH := Lib.hid (HH.out.go hb); clear hb; obtain ⟨⟨x0, x1, x2, x3⟩, ⟨y0, y1, y2, y3⟩, _, lz⟩ := HH.out)
      | (go_at_call 17; refine (l00In_any _ _ _ _).mono ?_; rintro e w9 ⟨rfl, rfl⟩; rw [show decide ((1 : Int) ≤ 8 ∧ (8 : Int) ≤ 9) = true from rfl]))
    go_ret2
    exact ⟨rfl, HH.out.2.2.1⟩
  cases z2
  · go_enter Tryz.func7, Tryz.ntmps7
    go_wp2_with (first
      | (go_at_call 16; have tk0 := K0; clear tk0 K0; have HH := Lib.hid (H0.out _ rfl); refine (spec_ValidValue_any a.k a.n a.t a.r _ HMA.out).mono ?_; rintro e w1 ⟨he, hb⟩; rw [F0.out] at he; subst he; replace HH := Lib.hid (HH.out.go hb); clear hb; obtain ⟨⟨x0, x1, x2, x3⟩, ⟨y0, y1, y2, y3⟩, _, lz⟩ := HH.out)
      | (go_at_call 16; have tk1 := K1; clear tk1 K1; have HQ := spec_ValidValue_any b.k b.n b.t b.r w1 HMB.out; rw [F1.out] at HQ; refine Calls.mono HQ ?_; clear HQ x0 x1 x2 x3 y0 y1 y2 y3 lz; rintro e w1 ⟨he, hb⟩; subst he; replace HH := Lib.hid (HH.out.go hb); clear hb; obtain ⟨⟨x0, x1, x2, x3⟩, ⟨y0, y1, y2, y3⟩, _, lz⟩ := HH.out)
      | (go_at_call 17; refine (l00In_any _ _ _ _).mono ?_; rintro e w9 ⟨rfl, rfl⟩; rw [show decide ((1 : Int) ≤ 8 ∧ (8 : Int) ≤ 9) = true from rfl]))
    go_ret2
    exact ⟨rfl, HH.out.2.2.1⟩
  cases z3
  · go_enter Tryz.func7, Tryz.ntmps7
    go_wp2_with (first
      | (go_at_call 16; have tk0 := K0; clear tk0 K0; have HH := Lib.hid (H0.out _ rfl); refine (spec_ValidValue_any a.k a.n a.t a.r _ HMA.out).mono ?_; rintro e w1 ⟨he, hb⟩; rw [F0.out] at he; subst he; replace HH := Lib.hid (HH.out.go hb); clear hb; obtain ⟨⟨x0, x1, x2, x3⟩, ⟨y0, y1, y2, y3⟩, _, lz⟩ := HH.out)
      | (go_at_call 16; have tk1 := K1; clear tk1 K1; have HQ := spec_ValidValue_any b.k b.n b.t b.r w1 HMB.out; rw [F1.out] at HQ; refine Calls.mono HQ ?_; clear HQ x0 x1 x2 x3 y0 y1 y2 y3 lz; rintro e w1 ⟨he, hb⟩; subst he; replace HH := Lib.hid (HH.out.go hb); clear hb; obtain ⟨⟨x0, x1, x2, x3⟩, ⟨y0, y1, y2, y3⟩, _, lz⟩ := HH.out)
      | (go_at_call 17; refine (l00In_any _ _ _ _).mono ?_; rintro e w9 ⟨rfl, rfl⟩; rw [show decide ((1 : Int) ≤ 8 ∧ (8 : Int) ≤ 9) = true from rfl]))
    go_ret2
    exact ⟨rfl, HH.out.2.2.1⟩
  cases z4
  all_goals
    go_enter Tryz.func7, Tryz.ntmps7
    go_wp2_with (first
      | (go_at_call 16; have tk0 := K0; clear tk0 K0; have HH := Lib.hid (H0.out _ rfl); refine (spec_ValidValue_any a.k a.n a.t a.r _ HMA.out).mono ?_; rintro e w1 ⟨he, hb⟩; rw [F0.out] at he; subst he; replace HH := Lib.hid (HH.out.go hb); clear hb; obtain ⟨⟨x0, x1, x2, x3⟩, ⟨y0, y1, y2, y3⟩, _, lz⟩ := HH.out)
      | (go_at_call 16; have tk1 := K1; clear tk1 K1; have HQ := spec_ValidValue_any b.k b.n b.t b.r w1 HMB.out; rw [F1.out] at HQ; refine Calls.mono HQ ?_; clear HQ x0 x1 x2 x3 y0 y1 y2 y3 lz; rintro e w1 ⟨he, hb⟩; subst he; replace HH := Lib.hid (HH.out.go hb); clear hb; obtain ⟨⟨x0, x1, x2, x3⟩, ⟨y0, y1, y2, y3⟩, _, lz⟩ := HH.out)
      | (go_at_call 17; refine (l00In_any _ _ _ _).mono ?_; rintro e w9 ⟨rfl, rfl⟩; rw [show decide ((1 : Int) ≤ 8 ∧ (8 : Int) ≤ 9) = true from rfl]))
    go_ret2
    exact ⟨rfl, HH.out.2.2.1⟩

set_option maxHeartbeats 800000 in
set_option maxRecDepth 100000 in
theorem spec_cmp_9 (a b : Va) (W : World) (ha : a.t.size ≤ 1048576) (hb : b.t.size ≤ 1048576) (p q : Bool) (f0 : validV a.k a.n a.t a.r = true) (f1 : validV b.k b.n b.t b.r = true) (fp : ttB a.k a.n a.t a.r = p) (fq : ttB b.k b.n b.t b.r = q) :
    Calls Tryz.prog 7 #[.int .i64 9, a.ag, b.ag] W fun e w' => e = .returned (.tuple #[.bool ((p && q) && txtGt a b), .int .i64 (if (p && q) = true then 0 else 4)]) ∧ Below W.heap.size W w' := by
  have H0 := Lib.hid (L2.newI W a b)
  have HA := Lib.hid ha
  have HB := Lib.hid hb
  have HMA : Hid (a.t.size ≤ maxLen) := Nat.le_trans ha (by unfold maxLen; omega)
  have HMB : Hid (b.t.size ≤ maxLen) := Nat.le_trans hb (by unfold maxLen; omega)
  have F0 := Lib.hid f0
  have F1 := Lib.hid f1
  have FP := Lib.hid fp
  have FQ := Lib.hid fq
  clear ha hb f0 f1 fp fq
  have K0 : True := trivial
  have K1 : True := trivial
  have K2 : True := trivial
  have K3 : True := trivial
  have K4 : True := trivial
  have K5 : True := trivial
  unfold Va.ag
  unfold txtGt gtS
  cases p <;> cases q
  all_goals
    go_enter Tryz.func7, Tryz.ntmps7
    go_wp2_with (first
      | (go_at_call 16; have tk0 := K0; clear tk0 K0; have HH := Lib.hid (H0.out _ rfl); refine (spec_ValidValue_any a.k a.n a.t a.r _ HMA.out).mono ?_; rintro e w1 ⟨he, hb⟩; rw [F0.out] at he; subst he; replace HH := Lib.hid (HH.out.go hb); clear hb; obtain ⟨⟨x0, x1, x2, x3⟩, ⟨y0, y1, y2, y3⟩, _, lz⟩ := HH.out)
      | (go_at_call 16; have tk1 := K1; clear tk1 K1; have HQ := spec_ValidValue_any b.k b.n b.t b.r w1 HMB.out; rw [F1.out] at HQ; refine Calls.mono HQ ?_; clear HQ x0 x1 x2 x3 y0 y1 y2 y3 lz; rintro e w1 ⟨he, hb⟩; subst he; replace HH := Lib.hid (HH.out.go hb); clear hb; obtain ⟨⟨x0, x1, x2, x3⟩, ⟨y0, y1, y2, y3⟩, _, lz⟩ := HH.out)
      | (go_at_call 17; refine (l00In_any _ _ _ _).mono ?_; rintro e w9 ⟨rfl, rfl⟩; rw [show decide ((1 : Int) ≤ 9 ∧ (9 : Int) ≤ 9) = true from rfl])
      | (go_at_call 18; have tk2 := K2; clear tk2 K2; have HQ := spec_ToText_any a.k a.n a.t a.r w1 HMA.out; rw [FP.out] at HQ; refine Calls.mono HQ ?_; clear HQ x0 x1 x2 x3 y0 y1 y2 y3 lz; rintro e w1 ⟨he, hb⟩; subst he; replace HH := Lib.hid (HH.out.go hb); clear hb; obtain ⟨⟨x0, x1, x2, x3⟩, ⟨y0, y1, y2, y3⟩, _, lz⟩ := HH.out)
      | (go_at_call 18; have tk3 := K3; clear tk3 K3; have HQ := spec_ToText_any b.k b.n b.t b.r w1 HMB.out; rw [FQ.out] at HQ; refine Calls.mono HQ ?_; clear HQ x0 x1 x2 x3 y0 y1 y2 y3 lz; rintro e w1 ⟨he, hb⟩; subst he; replace HH := Lib.hid (HH.out.go hb); clear hb; obtain ⟨⟨x0, x1, x2, x3⟩, ⟨y0, y1, y2, y3⟩, _, lz⟩ := HH.out))
    go_ret2
    exact ⟨rfl, HH.out.2.2.1⟩

set_option maxHeartbeats 800000 in
set_option maxRecDepth 100000 in
theorem spec_cmp_n (op : Int) (a b : Va) (W : World) (ha : a.t.size ≤ 1048576) (hb : b.t.size ≤ 1048576) (x y : Int) (p q : Bool) (f0 : validV a.k a.n a.t a.r = true) (f1 : validV b.k b.n b.t b.r = true) (fo : 1 ≤ op ∧ op ≤ 6) (fp : tiE a.k a.n a.t a.r = .returned (.tuple #[.int .i64 x, .bool p])) (fq : tiE b.k b.n b.t b.r = .returned (.tuple #[.int .i64 y, .bool q])) :
    Calls Tryz.prog 7 #[.int .i64 op, a.ag, b.ag] W fun e w' => e = .returned (.tuple #[.bool ((p && q) && holdI op x y), .int .i64 (if (p && q) = true then 0 else 4)]) ∧ Below W.heap.size W w' := by
  have H0 := Lib.hid (L2.newI W a b)
  have HA := Lib.hid ha
  have HB := Lib.hid hb
  have HMA : Hid (a.t.size ≤ maxLen) := Nat.le_trans ha (by unfold maxLen; omega)
  have HMB : Hid (b.t.size ≤ maxLen) := Nat.le_trans hb (by unfold maxLen; omega)
  have F0 := Lib.hid f0
  have F1 := Lib.hid f1
  have FO := Lib.hid fo
  have FP := Lib.hid fp
  have FQ := Lib.hid fq
  clear ha hb f0 f1 fo fp fq
  have K0 : True := trivial
  have K1 : True := trivial
  have K2 : True := trivial
  have K3 : True := trivial
  have K4 : True := trivial
  have K5 : True := trivial
  unfold Va.ag
  have d7 : (op == 7) = false := by have := FO.out; rw [beq_eq_false_iff_ne]; omega
  have d8 : (op == 8) = false := by have := FO.out; rw [beq_eq_false_iff_ne]; omega
  have d9 : (op == 9) = false := by have := FO.out; rw [beq_eq_false_iff_ne]; omega
  have DO : Hid (decide (1 ≤ op ∧ op ≤ 9) = true) := by have := FO.out; show _ = _; rw [decide_eq_true_eq]; omega
  obtain ⟨l, hl⟩ : ∃ l, holdI op x y = l := ⟨_, rfl⟩
  have HLL := Lib.hid hl
  rw [hl]
  clear hl
  cases p <;> cases q
  all_goals
    go_enter Tryz.func7, Tryz.ntmps7
    go_wp2_with (first
      | (go_at_call 16; have tk0 := K0; clear tk0 K0; have HH := Lib.hid (H0.out _ rfl); refine (spec_ValidValue_any a.k a.n a.t a.r _ HMA.out).mono ?_; rintro e w1 ⟨he, hb⟩; rw [F0.out] at he; subst he; replace HH := Lib.hid (HH.out.go hb); clear hb; obtain ⟨⟨x0, x1, x2, x3⟩, ⟨y0, y1, y2, y3⟩, _, lz⟩ := HH.out)
      | (go_at_call 16; have tk1 := K1; clear tk1 K1; have HQ := spec_ValidValue_any b.k b.n b.t b.r w1 HMB.out; rw [F1.out] at HQ; refine Calls.mono HQ ?_; clear HQ x0 x1 x2 x3 y0 y1 y2 y3 lz; rintro e w1 ⟨he, hb⟩; subst he; replace HH := Lib.hid (HH.out.go hb); clear hb; obtain ⟨⟨x0, x1, x2, x3⟩, ⟨y0, y1, y2, y3⟩, _, lz⟩ := HH.out)
      | (go_at_call 17; refine (l00In_any _ _ _ _).mono ?_; rintro e w9 ⟨rfl, rfl⟩; rw [DO.out])
      | (go_at_call 19; have tk2 := K2; clear tk2 K2; have HQ := spec_ToInteger_any a.k a.n a.t a.r w1 HA.out; rw [FP.out] at HQ; refine Calls.mono HQ ?_; clear HQ x0 x1 x2 x3 y0 y1 y2 y3 lz; rintro e w1 ⟨he, hb⟩; subst he; replace HH := Lib.hid (HH.out.go hb); clear hb; obtain ⟨⟨x0, x1, x2, x3⟩, ⟨y0, y1, y2, y3⟩, _, lz⟩ := HH.out)
      | (go_at_call 19; have tk3 := K3; clear tk3 K3; have HQ := spec_ToInteger_any b.k b.n b.t b.r w1 HB.out; rw [FQ.out] at HQ; refine Calls.mono HQ ?_; clear HQ x0 x1 x2 x3 y0 y1 y2 y3 lz; rintro e w1 ⟨he, hb⟩; subst he; replace HH := Lib.hid (HH.out.go hb); clear hb; obtain ⟨⟨x0, x1, x2, x3⟩, ⟨y0, y1, y2, y3⟩, _, lz⟩ := HH.out)
      | (go_at_call 20; refine (l10Holds_any _ _ _ _ FO.out).mono ?_; rintro e w8 ⟨rfl, rfl⟩; rw [HLL.out]))
    go_ret2
    exact ⟨rfl, HH.out.2.2.1⟩

theorem spec_Compared_any (op : Int) (a b : Va) (W : World) (ha : a.t.size ≤ 1048576) (hb : b.t.size ≤ 1048576) :
    Calls Tryz.prog 7 #[.int .i64 op, a.ag, b.ag] W fun e w' => e = .returned (.tuple #[.bool (cmpV op a b).1, .int .i64 (cmpV op a b).2]) ∧ Below W.heap.size W w' := by
  unfold cmpV
  cases hva : a.ok
  · rw [if_pos (by simp)]; exact spec_cmp_badA op a b W ha hb hva
  cases hvb : b.ok
  · rw [if_pos (by simp)]; exact spec_cmp_badB op a b W ha hb hva hvb
  cases hop : decide (1 ≤ op ∧ op ≤ 9)
  · rw [if_pos (by simp)]; exact spec_cmp_badO op a b W ha hb hva hvb hop
  rw [if_neg (by simp)]
  by_cases h7 : op = 7
  · rw [if_pos h7]; subst h7; exact spec_cmp_7 a b W ha hb hva hvb
  rw [if_neg h7]
  by_cases h8 : op = 8
  · rw [if_pos h8]; subst h8; exact spec_cmp_8 a b W ha hb hva hvb
  rw [if_neg h8]
  by_cases h9 : op = 9
  · rw [if_pos h9]; subst h9; exact spec_cmp_9 a b W ha hb _ _ hva hvb rfl rfl
  rw [if_neg h9]
  have hop := of_decide_eq_true hop
  exact spec_cmp_n op a b W ha hb _ _ _ _ hva hvb (by omega) (ti_eq a) (ti_eq b)
end Go.Proofs.YtpjjpfjnjhahcaaGreatDoor
