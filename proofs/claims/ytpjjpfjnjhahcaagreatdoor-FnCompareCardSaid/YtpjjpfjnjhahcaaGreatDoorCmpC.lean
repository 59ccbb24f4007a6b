/- Contracts: what compareAs makes, comparisonTable. Conditions: the tables hold what the program's text lays. -/
import Derived.Test.YtpjjpfjnjhahcaaGreatDoorCmp
import Derived.Test.YtpjjpfjnjhahcaaGreatDoorConvI
import Derived.Test.YtpjjpfjnjhahcaaGreatDoorCmpW
namespace Go.Proofs.YtpjjpfjnjhahcaaGreatDoor
open Go Go.RowKit

/-- A closure of compareAs: what it converts by and what it asks lie in two blocks. -/
def FnAt (B : Nat) (w : World) (v : Value) (c F H : Nat) : Prop := ∃ g : Nat, v = .func (.func c) #[] #[.pointer (some ⟨g, 0, none⟩), .pointer (some ⟨g + 1, 0, none⟩)] ∧ w.cell? ⟨g, 0, none⟩ = some (.func (.func F) #[] #[]) ∧ w.cell? ⟨g + 1, 0, none⟩ = some (.func (.func H) #[] #[]) ∧ g + 1 < w.heap.size ∧ B ≤ g
theorem FnAt.go {B : Nat} {w w' : World} {v : Value} {c F H : Nat} (h : FnAt B w v c F H) (hb : Below w.heap.size w w') : FnAt B w' v c F H := by
  obtain ⟨g, h1, h2, h3, h4, h5⟩ := h
  exact ⟨g, h1, (hb.cell (p := ⟨g, 0, none⟩) (show g < _ by omega)).trans h2, (hb.cell (p := ⟨g + 1, 0, none⟩) h4).trans h3, Nat.lt_of_lt_of_le h4 hb.size, h5⟩
theorem FnAt.set {B : Nat} {w : World} {v : Value} {c F H : Nat} (h : FnAt B w v c F H) {p : Addr} (hp : p.block < B) (u : Value) : FnAt B (w.setCell p u) v c F H := by
  obtain ⟨g, h1, h2, h3, h4, h5⟩ := h
  refine ⟨g, h1, ?_, ?_, by simpa using h4, h5⟩
  · exact (World.cell?_setCell_other (w := w) (a := p) (b := ⟨g, 0, none⟩) (v := u) (by intro e; rw [e] at hp; simp at hp; omega)).trans h2
  · exact (World.cell?_setCell_other (w := w) (a := p) (b := ⟨g + 1, 0, none⟩) (v := u) (by intro e; rw [e] at hp; simp at hp; omega)).trans h3
theorem old2 {W : World} {p : Addr} {v : Value} (h : W.cell? p = some v) (hp : p.block < W.heap.size) : ∀ o o', ((W.alloc o).alloc o').cell? p = some v := fun o o' =>
  ((((Below.refl W.heap.size W).alloc (Nat.le_refl _) o).alloc (by simp) o').cell hp).trans h
theorem mkI_any (F H : Nat) (W : World) :
    Calls Tryz.prog 26 #[.func (.func F) #[] #[], .func (.func H) #[] #[]] W fun e w' => (∃ v, e = .returned v ∧ FnAt W.heap.size w' v 53 F H) ∧ Below W.heap.size W w' := by
  have hmf : ∀ (fn : Fn) (first cap : Array Value) (w : World), (Instr.makeFunc fn first cap).run Tryz.prog w = .ok (.func fn first cap) w := fun _ _ _ _ => rfl
  go_enter Tryz.func26, Tryz.ntmps26
  go_wp2
  go_ret
  exact ⟨⟨_, rfl, W.heap.size, rfl, by simp, by simp, by simp, Nat.le_refl _⟩, ((Below.refl _ _).alloc (Nat.le_refl _) _).alloc (by simp) _⟩
theorem mkV_any (F H : Nat) (W : World) :
    Calls Tryz.prog 34 #[.func (.func F) #[] #[], .func (.func H) #[] #[]] W fun e w' => (∃ v, e = .returned v ∧ FnAt W.heap.size w' v 59 F H) ∧ Below W.heap.size W w' := by
  have hmf : ∀ (fn : Fn) (first cap : Array Value) (w : World), (Instr.makeFunc fn first cap).run Tryz.prog w = .ok (.func fn first cap) w := fun _ _ _ _ => rfl
  go_enter Tryz.func34, Tryz.ntmps34
  go_wp2
  go_ret
  exact ⟨⟨_, rfl, W.heap.size, rfl, by simp, by simp, by simp, Nat.le_refl _⟩, ((Below.refl _ _).alloc (Nat.le_refl _) _).alloc (by simp) _⟩
theorem mkS_any (F H : Nat) (W : World) :
    Calls Tryz.prog 38 #[.func (.func F) #[] #[], .func (.func H) #[] #[]] W fun e w' => (∃ v, e = .returned v ∧ FnAt W.heap.size w' v 61 F H) ∧ Below W.heap.size W w' := by
  have hmf : ∀ (fn : Fn) (first cap : Array Value) (w : World), (Instr.makeFunc fn first cap).run Tryz.prog w = .ok (.func fn first cap) w := fun _ _ _ _ => rfl
  go_enter Tryz.func38, Tryz.ntmps38
  go_wp2
  go_ret
  exact ⟨⟨_, rfl, W.heap.size, rfl, by simp, by simp, by simp, Nat.le_refl _⟩, ((Below.refl _ _).alloc (Nat.le_refl _) _).alloc (by simp) _⟩
theorem h1_any (x y : Int) (W : World) : Calls Tryz.prog 28 #[.int .i64 x, .int .i64 y] W fun e w' => e = .returned (.bool (holdI 1 x y)) ∧ W = w' := by
  go_enter Tryz.func28, Tryz.ntmps28
  go_wp2
  go_ret
  exact ⟨by simp [holdI], rfl⟩
theorem h2_any (x y : Int) (W : World) : Calls Tryz.prog 29 #[.int .i64 x, .int .i64 y] W fun e w' => e = .returned (.bool (holdI 2 x y)) ∧ W = w' := by
  go_enter Tryz.func29, Tryz.ntmps29
  go_wp2
  go_ret
  exact ⟨by simp [holdI], rfl⟩
theorem h3_any (x y : Int) (W : World) : Calls Tryz.prog 30 #[.int .i64 x, .int .i64 y] W fun e w' => e = .returned (.bool (holdI 3 x y)) ∧ W = w' := by
  go_enter Tryz.func30, Tryz.ntmps30
  go_wp2
  go_ret
  exact ⟨by simp [holdI], rfl⟩
theorem h4_any (x y : Int) (W : World) : Calls Tryz.prog 31 #[.int .i64 x, .int .i64 y] W fun e w' => e = .returned (.bool (holdI 4 x y)) ∧ W = w' := by
  go_enter Tryz.func31, Tryz.ntmps31
  go_wp2
  go_ret
  exact ⟨by simp [holdI], rfl⟩
theorem h5_any (x y : Int) (W : World) : Calls Tryz.prog 32 #[.int .i64 x, .int .i64 y] W fun e w' => e = .returned (.bool (holdI 5 x y)) ∧ W = w' := by
  go_enter Tryz.func32, Tryz.ntmps32
  go_wp2
  go_ret
  exact ⟨by simp [holdI], rfl⟩
theorem h6_any (x y : Int) (W : World) : Calls Tryz.prog 33 #[.int .i64 x, .int .i64 y] W fun e w' => e = .returned (.bool (holdI 6 x y)) ∧ W = w' := by
  go_enter Tryz.func33, Tryz.ntmps33
  go_wp2
  go_ret
  exact ⟨by simp [holdI], rfl⟩
theorem h7_any (a b : Va) (W : World) : Calls Tryz.prog 37 #[a.ag, b.ag] W fun e w' => e = .returned (.bool (!a.same b)) ∧ Below W.heap.size W w' := by
  have HC := Lib.hid (two_newV W 25 a b)
  obtain ⟨s, hs⟩ : ∃ s, a.same b = s := ⟨_, rfl⟩
  have HS := Lib.hid hs
  rw [hs]
  clear hs
  unfold Va.ag
  go_enter Tryz.func37, Tryz.ntmps37
  go_wp2_with (go_at_call 36; obtain ⟨x0, x1, x2, x3⟩ := HC.out _ rfl; refine Calls.mono (impl_same_any a b _) ?_; rintro e w1 ⟨he, hb⟩; rw [HS.out] at he; subst he; have HB1 : Hid (Below W.heap.size W w1) := x2.trans (hb.mono x2.size); clear hb x0 x1 x2 x3)
  go_ret
  exact ⟨rfl, HB1.out⟩
theorem h8_any (x y : ByteArray) (W : World) : Calls Tryz.prog 40 #[.string x, .string y] W fun e w' => e = .returned (.bool (gtS x y)) ∧ W = w' := by
  go_enter Tryz.func40, Tryz.ntmps40
  go_wp2
  go_ret
  exact ⟨rfl, rfl⟩

set_option maxHeartbeats 800000 in
theorem cl1_any (a b : Va) (g : Nat) (W : World) (ha : a.t.size ≤ 1048576) (hb : b.t.size ≤ 1048576) (hT : Tabs W) (c1 : W.cell? ⟨g, 0, none⟩ = some (.func (.func 27) #[] #[])) (c2 : W.cell? ⟨g + 1, 0, none⟩ = some (.func (.func 28) #[] #[])) (l2 : g + 1 < W.heap.size) :
    Calls Tryz.prog 53 #[a.ag, b.ag, .pointer (some ⟨g, 0, none⟩), .pointer (some ⟨g + 1, 0, none⟩)] W fun e w' => e = .returned (.tuple #[.bool (holdI 1 (tiI a) (tiI b)), .bool (tiB a && tiB b)]) ∧ Below W.heap.size W w' := by
  have HC := Lib.hid (two_newV W 25 a b)
  have HT := Lib.hid hT
  have HA := Lib.hid ha
  have HB := Lib.hid hb
  have HMA : Hid (a.t.size ≤ maxLen) := Nat.le_trans ha (by unfold maxLen; omega)
  have HMB : Hid (b.t.size ≤ maxLen) := Nat.le_trans hb (by unfold maxLen; omega)
  have p1 := old2 c1 (show g < _ by omega)
  have P2 := Lib.hid c2
  have L2 := Lib.hid l2
  clear ha hb hT c1 c2 l2
  unfold Va.ag
  go_enter Tryz.func53, Tryz.ntmps53
  go_wp2_with (first
    | (go_at_call 54; obtain ⟨x0, x1, x2, x3⟩ := HC.out _ rfl; refine Calls.mono (convI_case a b _ HA.out HB.out (HT.out.go x2) _ _ _ _ (ti_eq a) (ti_eq b)) ?_; rintro e w1 ⟨rfl, hb⟩; have HB1 : Hid (Below W.heap.size W w1) := x2.trans (hb.mono x2.size); have q2 : w1.cell? ⟨g + 1, 0, none⟩ = some (.func (.func 28) #[] #[]) := (HB1.out.cell (p := ⟨g + 1, 0, none⟩) L2.out).trans P2.out; have lq := Nat.lt_of_lt_of_le L2.out HB1.out.size; clear hb x0 x1 x2 x3 p1)
    | (go_at_call 28; refine (h1_any _ _ _).mono ?_; rintro e w2 ⟨rfl, rfl⟩))
  go_ret2
  exact ⟨rfl, HB1.out⟩

set_option maxHeartbeats 800000 in
theorem cl2_any (a b : Va) (g : Nat) (W : World) (ha : a.t.size ≤ 1048576) (hb : b.t.size ≤ 1048576) (hT : Tabs W) (c1 : W.cell? ⟨g, 0, none⟩ = some (.func (.func 27) #[] #[])) (c2 : W.cell? ⟨g + 1, 0, none⟩ = some (.func (.func 29) #[] #[])) (l2 : g + 1 < W.heap.size) :
    Calls Tryz.prog 53 #[a.ag, b.ag, .pointer (some ⟨g, 0, none⟩), .pointer (some ⟨g + 1, 0, none⟩)] W fun e w' => e = .returned (.tuple #[.bool (holdI 2 (tiI a) (tiI b)), .bool (tiB a && tiB b)]) ∧ Below W.heap.size W w' := by
  have HC := Lib.hid (two_newV W 25 a b)
  have HT := Lib.hid hT
  have HA := Lib.hid ha
  have HB := Lib.hid hb
  have HMA : Hid (a.t.size ≤ maxLen) := Nat.le_trans ha (by unfold maxLen; omega)
  have HMB : Hid (b.t.size ≤ maxLen) := Nat.le_trans hb (by unfold maxLen; omega)
  have p1 := old2 c1 (show g < _ by omega)
  have P2 := Lib.hid c2
  have L2 := Lib.hid l2
  clear ha hb hT c1 c2 l2
  unfold Va.ag
  go_enter Tryz.func53, Tryz.ntmps53
  go_wp2_with (first
    | (go_at_call 54; obtain ⟨x0, x1, x2, x3⟩ := HC.out _ rfl; refine Calls.mono (convI_case a b _ HA.out HB.out (HT.out.go x2) _ _ _ _ (ti_eq a) (ti_eq b)) ?_; rintro e w1 ⟨rfl, hb⟩; have HB1 : Hid (Below W.heap.size W w1) := x2.trans (hb.mono x2.size); have q2 : w1.cell? ⟨g + 1, 0, none⟩ = some (.func (.func 29) #[] #[]) := (HB1.out.cell (p := ⟨g + 1, 0, none⟩) L2.out).trans P2.out; have lq := Nat.lt_of_lt_of_le L2.out HB1.out.size; clear hb x0 x1 x2 x3 p1)
    | (go_at_call 29; refine (h2_any _ _ _).mono ?_; rintro e w2 ⟨rfl, rfl⟩))
  go_ret2
  exact ⟨rfl, HB1.out⟩

set_option maxHeartbeats 800000 in
theorem cl3_any (a b : Va) (g : Nat) (W : World) (ha : a.t.size ≤ 1048576) (hb : b.t.size ≤ 1048576) (hT : Tabs W) (c1 : W.cell? ⟨g, 0, none⟩ = some (.func (.func 27) #[] #[])) (c2 : W.cell? ⟨g + 1, 0, none⟩ = some (.func (.func 30) #[] #[])) (l2 : g + 1 < W.heap.size) :
    Calls Tryz.prog 53 #[a.ag, b.ag, .pointer (some ⟨g, 0, none⟩), .pointer (some ⟨g + 1, 0, none⟩)] W fun e w' => e = .returned (.tuple #[.bool (holdI 3 (tiI a) (tiI b)), .bool (tiB a && tiB b)]) ∧ Below W.heap.size W w' := by
  have HC := Lib.hid (two_newV W 25 a b)
  have HT := Lib.hid hT
  have HA := Lib.hid ha
  have HB := Lib.hid hb
  have HMA : Hid (a.t.size ≤ maxLen) := Nat.le_trans ha (by unfold maxLen; omega)
  have HMB : Hid (b.t.size ≤ maxLen) := Nat.le_trans hb (by unfold maxLen; omega)
  have p1 := old2 c1 (show g < _ by omega)
  have P2 := Lib.hid c2
  have L2 := Lib.hid l2
  clear ha hb hT c1 c2 l2
  unfold Va.ag
  go_enter Tryz.func53, Tryz.ntmps53
  go_wp2_with (first
    | (go_at_call 54; obtain ⟨x0, x1, x2, x3⟩ := HC.out _ rfl; refine Calls.mono (convI_case a b _ HA.out HB.out (HT.out.go x2) _ _ _ _ (ti_eq a) (ti_eq b)) ?_; rintro e w1 ⟨rfl, hb⟩; have HB1 : Hid (Below W.heap.size W w1) := x2.trans (hb.mono x2.size); have q2 : w1.cell? ⟨g + 1, 0, none⟩ = some (.func (.func 30) #[] #[]) := (HB1.out.cell (p := ⟨g + 1, 0, none⟩) L2.out).trans P2.out; have lq := Nat.lt_of_lt_of_le L2.out HB1.out.size; clear hb x0 x1 x2 x3 p1)
    | (go_at_call 30; refine (h3_any _ _ _).mono ?_; rintro e w2 ⟨rfl, rfl⟩))
  go_ret2
  exact ⟨rfl, HB1.out⟩

set_option maxHeartbeats 800000 in
theorem cl4_any (a b : Va) (g : Nat) (W : World) (ha : a.t.size ≤ 1048576) (hb : b.t.size ≤ 1048576) (hT : Tabs W) (c1 : W.cell? ⟨g, 0, none⟩ = some (.func (.func 27) #[] #[])) (c2 : W.cell? ⟨g + 1, 0, none⟩ = some (.func (.func 31) #[] #[])) (l2 : g + 1 < W.heap.size) :
    Calls Tryz.prog 53 #[a.ag, b.ag, .pointer (some ⟨g, 0, none⟩), .pointer (some ⟨g + 1, 0, none⟩)] W fun e w' => e = .returned (.tuple #[.bool (holdI 4 (tiI a) (tiI b)), .bool (tiB a && tiB b)]) ∧ Below W.heap.size W w' := by
  have HC := Lib.hid (two_newV W 25 a b)
  have HT := Lib.hid hT
  have HA := Lib.hid ha
  have HB := Lib.hid hb
  have HMA : Hid (a.t.size ≤ maxLen) := Nat.le_trans ha (by unfold maxLen; omega)
  have HMB : Hid (b.t.size ≤ maxLen) := Nat.le_trans hb (by unfold maxLen; omega)
  have p1 := old2 c1 (show g < _ by omega)
  have P2 := Lib.hid c2
  have L2 := Lib.hid l2
  clear ha hb hT c1 c2 l2
  unfold Va.ag
  go_enter Tryz.func53, Tryz.ntmps53
  go_wp2_with (first
    | (go_at_call 54; obtain ⟨x0, x1, x2, x3⟩ := HC.out _ rfl; refine Calls.mono (convI_case a b _ HA.out HB.out (HT.out.go x2) _ _ _ _ (ti_eq a) (ti_eq b)) ?_; rintro e w1 ⟨rfl, hb⟩; have HB1 : Hid (Below W.heap.size W w1) := x2.trans (hb.mono x2.size); have q2 : w1.cell? ⟨g + 1, 0, none⟩ = some (.func (.func 31) #[] #[]) := (HB1.out.cell (p := ⟨g + 1, 0, none⟩) L2.out).trans P2.out; have lq := Nat.lt_of_lt_of_le L2.out HB1.out.size; clear hb x0 x1 x2 x3 p1)
    | (go_at_call 31; refine (h4_any _ _ _).mono ?_; rintro e w2 ⟨rfl, rfl⟩))
  go_ret2
  exact ⟨rfl, HB1.out⟩

set_option maxHeartbeats 800000 in
theorem cl5_any (a b : Va) (g : Nat) (W : World) (ha : a.t.size ≤ 1048576) (hb : b.t.size ≤ 1048576) (hT : Tabs W) (c1 : W.cell? ⟨g, 0, none⟩ = some (.func (.func 27) #[] #[])) (c2 : W.cell? ⟨g + 1, 0, none⟩ = some (.func (.func 32) #[] #[])) (l2 : g + 1 < W.heap.size) :
    Calls Tryz.prog 53 #[a.ag, b.ag, .pointer (some ⟨g, 0, none⟩), .pointer (some ⟨g + 1, 0, none⟩)] W fun e w' => e = .returned (.tuple #[.bool (holdI 5 (tiI a) (tiI b)), .bool (tiB a && tiB b)]) ∧ Below W.heap.size W w' := by
  have HC := Lib.hid (two_newV W 25 a b)
  have HT := Lib.hid hT
  have HA := Lib.hid ha
  have HB := Lib.hid hb
  have HMA : Hid (a.t.size ≤ maxLen) := Nat.le_trans ha (by unfold maxLen; omega)
  have HMB : Hid (b.t.size ≤ maxLen) := Nat.le_trans hb (by unfold maxLen; omega)
  have p1 := old2 c1 (show g < _ by omega)
  have P2 := Lib.hid c2
  have L2 := Lib.hid l2
  clear ha hb hT c1 c2 l2
  unfold Va.ag
  go_enter Tryz.func53, Tryz.ntmps53
  go_wp2_with (first
    | (go_at_call 54; obtain ⟨x0, x1, x2, x3⟩ := HC.out _ rfl; refine Calls.mono (convI_case a b _ HA.out HB.out (HT.out.go x2) _ _ _ _ (ti_eq a) (ti_eq b)) ?_; rintro e w1 ⟨rfl, hb⟩; have HB1 : Hid (Below W.heap.size W w1) := x2.trans (hb.mono x2.size); have q2 : w1.cell? ⟨g + 1, 0, none⟩ = some (.func (.func 32) #[] #[]) := (HB1.out.cell (p := ⟨g + 1, 0, none⟩) L2.out).trans P2.out; have lq := Nat.lt_of_lt_of_le L2.out HB1.out.size; clear hb x0 x1 x2 x3 p1)
    | (go_at_call 32; refine (h5_any _ _ _).mono ?_; rintro e w2 ⟨rfl, rfl⟩))
  go_ret2
  exact ⟨rfl, HB1.out⟩

set_option maxHeartbeats 800000 in
theorem cl6_any (a b : Va) (g : Nat) (W : World) (ha : a.t.size ≤ 1048576) (hb : b.t.size ≤ 1048576) (hT : Tabs W) (c1 : W.cell? ⟨g, 0, none⟩ = some (.func (.func 27) #[] #[])) (c2 : W.cell? ⟨g + 1, 0, none⟩ = some (.func (.func 33) #[] #[])) (l2 : g + 1 < W.heap.size) :
    Calls Tryz.prog 53 #[a.ag, b.ag, .pointer (some ⟨g, 0, none⟩), .pointer (some ⟨g + 1, 0, none⟩)] W fun e w' => e = .returned (.tuple #[.bool (holdI 6 (tiI a) (tiI b)), .bool (tiB a && tiB b)]) ∧ Below W.heap.size W w' := by
  have HC := Lib.hid (two_newV W 25 a b)
  have HT := Lib.hid hT
  have HA := Lib.hid ha
  have HB := Lib.hid hb
  have HMA : Hid (a.t.size ≤ maxLen) := Nat.le_trans ha (by unfold maxLen; omega)
  have HMB : Hid (b.t.size ≤ maxLen) := Nat.le_trans hb (by unfold maxLen; omega)
  have p1 := old2 c1 (show g < _ by omega)
  have P2 := Lib.hid c2
  have L2 := Lib.hid l2
  clear ha hb hT c1 c2 l2
  unfold Va.ag
  go_enter Tryz.func53, Tryz.ntmps53
  go_wp2_with (first
    | (go_at_call 54; obtain ⟨x0, x1, x2, x3⟩ := HC.out _ rfl; refine Calls.mono (convI_case a b _ HA.out HB.out (HT.out.go x2) _ _ _ _ (ti_eq a) (ti_eq b)) ?_; rintro e w1 ⟨rfl, hb⟩; have HB1 : Hid (Below W.heap.size W w1) := x2.trans (hb.mono x2.size); have q2 : w1.cell? ⟨g + 1, 0, none⟩ = some (.func (.func 33) #[] #[]) := (HB1.out.cell (p := ⟨g + 1, 0, none⟩) L2.out).trans P2.out; have lq := Nat.lt_of_lt_of_le L2.out HB1.out.size; clear hb x0 x1 x2 x3 p1)
    | (go_at_call 33; refine (h6_any _ _ _).mono ?_; rintro e w2 ⟨rfl, rfl⟩))
  go_ret2
  exact ⟨rfl, HB1.out⟩

set_option maxHeartbeats 800000 in
theorem cl7_any (a b : Va) (g : Nat) (W : World) (ha : a.t.size ≤ 1048576) (hb : b.t.size ≤ 1048576) (hT : Tabs W) (c1 : W.cell? ⟨g, 0, none⟩ = some (.func (.func 35) #[] #[])) (c2 : W.cell? ⟨g + 1, 0, none⟩ = some (.func (.func 36) #[] #[])) (l2 : g + 1 < W.heap.size) :
    Calls Tryz.prog 59 #[a.ag, b.ag, .pointer (some ⟨g, 0, none⟩), .pointer (some ⟨g + 1, 0, none⟩)] W fun e w' => e = .returned (.tuple #[.bool (a.same b), .bool true]) ∧ Below W.heap.size W w' := by
  have HC := Lib.hid (two_newV W 25 a b)
  have HT := Lib.hid hT
  have HA := Lib.hid ha
  have HB := Lib.hid hb
  have HMA : Hid (a.t.size ≤ maxLen) := Nat.le_trans ha (by unfold maxLen; omega)
  have HMB : Hid (b.t.size ≤ maxLen) := Nat.le_trans hb (by unfold maxLen; omega)
  have p1 := old2 c1 (show g < _ by omega)
  have P2 := Lib.hid c2
  have L2 := Lib.hid l2
  clear ha hb hT c1 c2 l2
  unfold Va.ag
  go_enter Tryz.func59, Tryz.ntmps59
  go_wp2_with (first
    | (go_at_call 60; obtain ⟨x0, x1, x2, x3⟩ := HC.out _ rfl; refine Calls.mono (convV_any a b _) ?_; rintro e w1 ⟨rfl, hb⟩; have HB1 : Hid (Below W.heap.size W w1) := x2.trans (hb.mono x2.size); have q2 : w1.cell? ⟨g + 1, 0, none⟩ = some (.func (.func 36) #[] #[]) := (HB1.out.cell (p := ⟨g + 1, 0, none⟩) L2.out).trans P2.out; have lq := Nat.lt_of_lt_of_le L2.out HB1.out.size; unfold Va.ag; have n1 : ¬ g + 1 = w1.heap.size := (by omega); have n2 : ¬ g = w1.heap.size := (by omega); have n3 : ¬ w1.heap.size = g + 1 := (by omega); have n4 : ¬ w1.heap.size = g := (by omega); have q3 := old2 q2 lq; clear hb x0 x1 x2 x3 p1)
    | (go_at_call 36; refine Calls.mono (impl_same_any a b _) ?_; rintro e w2 ⟨rfl, hb⟩; have HB2 : Hid (Below W.heap.size W w2) := HB1.out.trans (Below.mono (B := w1.heap.size) (Below.trans (by repeat (first | exact Below.refl _ _ | refine Below.setCell ?_ (by first | (simp; done) | (simp; omega)) _ | refine Below.alloc ?_ (by first | (simp; done) | (simp; omega)) _)) (hb.mono (by first | (simp; done) | (simp; omega)))) HB1.out.size)))
  go_ret2
  exact ⟨rfl, HB2.out⟩

set_option maxHeartbeats 800000 in
theorem cl8_any (a b : Va) (g : Nat) (W : World) (ha : a.t.size ≤ 1048576) (hb : b.t.size ≤ 1048576) (hT : Tabs W) (c1 : W.cell? ⟨g, 0, none⟩ = some (.func (.func 35) #[] #[])) (c2 : W.cell? ⟨g + 1, 0, none⟩ = some (.func (.func 37) #[] #[])) (l2 : g + 1 < W.heap.size) :
    Calls Tryz.prog 59 #[a.ag, b.ag, .pointer (some ⟨g, 0, none⟩), .pointer (some ⟨g + 1, 0, none⟩)] W fun e w' => e = .returned (.tuple #[.bool (!a.same b), .bool true]) ∧ Below W.heap.size W w' := by
  have HC := Lib.hid (two_newV W 25 a b)
  have HT := Lib.hid hT
  have HA := Lib.hid ha
  have HB := Lib.hid hb
  have HMA : Hid (a.t.size ≤ maxLen) := Nat.le_trans ha (by unfold maxLen; omega)
  have HMB : Hid (b.t.size ≤ maxLen) := Nat.le_trans hb (by unfold maxLen; omega)
  have p1 := old2 c1 (show g < _ by omega)
  have P2 := Lib.hid c2
  have L2 := Lib.hid l2
  clear ha hb hT c1 c2 l2
  unfold Va.ag
  go_enter Tryz.func59, Tryz.ntmps59
  go_wp2_with (first
    | (go_at_call 60; obtain ⟨x0, x1, x2, x3⟩ := HC.out _ rfl; refine Calls.mono (convV_any a b _) ?_; rintro e w1 ⟨rfl, hb⟩; have HB1 : Hid (Below W.heap.size W w1) := x2.trans (hb.mono x2.size); have q2 : w1.cell? ⟨g + 1, 0, none⟩ = some (.func (.func 37) #[] #[]) := (HB1.out.cell (p := ⟨g + 1, 0, none⟩) L2.out).trans P2.out; have lq := Nat.lt_of_lt_of_le L2.out HB1.out.size; unfold Va.ag; have n1 : ¬ g + 1 = w1.heap.size := (by omega); have n2 : ¬ g = w1.heap.size := (by omega); have n3 : ¬ w1.heap.size = g + 1 := (by omega); have n4 : ¬ w1.heap.size = g := (by omega); have q3 := old2 q2 lq; clear hb x0 x1 x2 x3 p1)
    | (go_at_call 37; refine Calls.mono (h7_any a b _) ?_; rintro e w2 ⟨rfl, hb⟩; have HB2 : Hid (Below W.heap.size W w2) := HB1.out.trans (Below.mono (B := w1.heap.size) (Below.trans (by repeat (first | exact Below.refl _ _ | refine Below.setCell ?_ (by first | (simp; done) | (simp; omega)) _ | refine Below.alloc ?_ (by first | (simp; done) | (simp; omega)) _)) (hb.mono (by first | (simp; done) | (simp; omega)))) HB1.out.size)))
  go_ret2
  exact ⟨rfl, HB2.out⟩

set_option maxHeartbeats 800000 in
theorem cl9_any (a b : Va) (g : Nat) (W : World) (ha : a.t.size ≤ 1048576) (hb : b.t.size ≤ 1048576) (hT : Tabs W) (c1 : W.cell? ⟨g, 0, none⟩ = some (.func (.func 39) #[] #[])) (c2 : W.cell? ⟨g + 1, 0, none⟩ = some (.func (.func 40) #[] #[])) (l2 : g + 1 < W.heap.size) :
    Calls Tryz.prog 61 #[a.ag, b.ag, .pointer (some ⟨g, 0, none⟩), .pointer (some ⟨g + 1, 0, none⟩)] W fun e w' => e = .returned (.tuple #[.bool (gtS (ttS a.k a.n a.t a.r) (ttS b.k b.n b.t b.r)), .bool (ttB a.k a.n a.t a.r && ttB b.k b.n b.t b.r)]) ∧ Below W.heap.size W w' := by
  have HC := Lib.hid (two_newV W 25 a b)
  have HT := Lib.hid hT
  have HA := Lib.hid ha
  have HB := Lib.hid hb
  have HMA : Hid (a.t.size ≤ maxLen) := Nat.le_trans ha (by unfold maxLen; omega)
  have HMB : Hid (b.t.size ≤ maxLen) := Nat.le_trans hb (by unfold maxLen; omega)
  have p1 := old2 c1 (show g < _ by omega)
  have P2 := Lib.hid c2
  have L2 := Lib.hid l2
  clear ha hb hT c1 c2 l2
  unfold Va.ag
  go_enter Tryz.func61, Tryz.ntmps61
  go_wp2_with (first
    | (go_at_call 62; obtain ⟨x0, x1, x2, x3⟩ := HC.out _ rfl; refine Calls.mono (convS_any a b _ HMA.out HMB.out (HT.out.go x2)) ?_; rintro e w1 ⟨rfl, hb⟩; have HB1 : Hid (Below W.heap.size W w1) := x2.trans (hb.mono x2.size); have q2 : w1.cell? ⟨g + 1, 0, none⟩ = some (.func (.func 40) #[] #[]) := (HB1.out.cell (p := ⟨g + 1, 0, none⟩) L2.out).trans P2.out; have lq := Nat.lt_of_lt_of_le L2.out HB1.out.size; clear hb x0 x1 x2 x3 p1)
    | (go_at_call 40; refine (h8_any _ _ _).mono ?_; rintro e w2 ⟨rfl, rfl⟩))
  go_ret2
  exact ⟨rfl, HB1.out⟩
end Go.Proofs.YtpjjpfjnjhahcaaGreatDoor
