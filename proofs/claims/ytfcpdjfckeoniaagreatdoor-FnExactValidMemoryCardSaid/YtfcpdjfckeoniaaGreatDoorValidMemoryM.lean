/- For every memorie, FnExactValidMemory returns true and leaves what it is handed as it was. Condition: the listed package-level variables hold what the program's text lays (tied by the given card). -/
import Derived.Test.YtfcpdjfckeoniaaGreatDoorValidMemoryM9
import Derived.Test.YtfcpdjfckeoniaaGreatDoorValidMemoryM3
import Derived.Test.YtfcpdjfckeoniaaGreatDoorValidMemoryM4
import Derived.Test.YtfcpdjfckeoniaaGreatDoorCards
import Derived.Stop.LaidErr
import Derived.Deep.RegionHeld3
import Derived.Test.YtfcpdjfckeoniaaGreatDoorTie
import Derived.WalkKit
import Derived.ProofKit
import Derived.OpenShut
import Derived.LaidMore
import Derived.OpenVars
import Derived.Deep.DeepHandedRow
import Derived.Deep.CondSized
namespace Go.Proofs.YtfcpdjfckeoniaaGreatDoor
open Go Go.RowKit Go.Sort

theorem cellsMe {T : TypeId} {w : World} {W : World} {x0 x6 : Int} {A1 A2 A3 A4 A5 A7 A8 A9 : Option Addr} {n1 c1 n2 c2 n3 c3 n4 c4 n5 c5 n7 c7 n8 c8 n9 c9 : Nat} (h : RW T w W.heap.size #[.int .i64 x0, .slice A1 n1 c1, .slice A2 n2 c2, .slice A3 n3 c3, .slice A4 n4 c4, .slice A5 n5 c5, .int .i64 x6, .slice A7 n7 c7, .slice A8 n8 c8, .slice A9 n9 c9]) : w.cell? ⟨W.heap.size, 0, none⟩ = some (.int .i64 x0) ∧ w.cell? ⟨W.heap.size, 1, none⟩ = some (.slice A1 n1 c1) ∧ w.cell? ⟨W.heap.size, 2, none⟩ = some (.slice A2 n2 c2) ∧ w.cell? ⟨W.heap.size, 3, none⟩ = some (.slice A3 n3 c3) ∧ w.cell? ⟨W.heap.size, 4, none⟩ = some (.slice A4 n4 c4) ∧ w.cell? ⟨W.heap.size, 5, none⟩ = some (.slice A5 n5 c5) ∧ w.cell? ⟨W.heap.size, 6, none⟩ = some (.int .i64 x6) ∧ w.cell? ⟨W.heap.size, 7, none⟩ = some (.slice A7 n7 c7) ∧ w.cell? ⟨W.heap.size, 8, none⟩ = some (.slice A8 n8 c8) ∧ w.cell? ⟨W.heap.size, 9, none⟩ = some (.slice A9 n9 c9) :=
  ⟨h.cell 0, h.cell 1, h.cell 2, h.cell 3, h.cell 4, h.cell 5, h.cell 6, h.cell 7, h.cell 8, h.cell 9⟩

set_option maxHeartbeats 4000000 in
set_option maxRecDepth 100000 in
theorem impl_ValidMemory_any (x : Me) (l : MeLay) (W : World) (ho : MeV W W.heap.size x l) (hA : ∃ g off, l.A1 = some ⟨g, off, none⟩) (hT : Classes W) :
    Calls Tryz.prog 17 #[x.ag l] W fun e w' => e = .returned (.bool (meB x)) ∧ Below W.heap.size W w' := by
  unfold meB
  obtain ⟨x0, x1, x2, x3, x4, x5, x6, x7, x8, x9⟩ := x
  obtain ⟨A1, n1, c1, h1, A2, n2, c2, h2, A3, n3, c3, h3, A4, n4, c4, h4, A5, n5, c5, h5, A7, n7, c7, h7, A8, n8, c8, h8, A9, n9, c9, h9⟩ := l
  obtain ⟨k0, k1, k2⟩ := ho
  dsimp only at k0 k1 k2 ⊢
  obtain ⟨g, off, hA⟩ := hA
  dsimp only at hA
  subst hA
  have HK0 := Lib.hid k0
  have HK1 := Lib.hid k1
  have HK2 := Lib.hid k2
  have HT := Lib.hid (fun (w : World) (hb : Below W.heap.size W w) => classes_up hT hb)
  clear hT
  have HC := Lib.hid (one_newS W 62 #[.int .i64 x0, .slice (some ⟨g, off, none⟩) n1 c1, .slice A2 n2 c2, .slice A3 n3 c3, .slice A4 n4 c4, .slice A5 n5 c5, .int .i64 x6, .slice A7 n7 c7, .slice A8 n8 c8, .slice A9 n9 c9])
  clear k0 k1 k2
  obtain ⟨z1, hz⟩ : ∃ z, tt (ScOk (⟨x2, x3, x4⟩ : Sc)) = z := ⟨_, rfl⟩
  have HZ1 := Lib.hid hz
  rw [hz]
  clear hz
  obtain ⟨z2, hz⟩ : ∃ z, consoleB (⟨x5, x6, x7, x8, x9⟩ : Cn) = z := ⟨_, rfl⟩
  have HZ2 := Lib.hid hz
  rw [hz]
  clear hz
  obtain ⟨z3, hz⟩ : ∃ z, tt (ValidH x0 x1 ∧ FitAll x1 (rootsV ⟨x2, x3, x4⟩)) = z := ⟨_, rfl⟩
  have HZ3 := Lib.hid hz
  rw [hz]
  clear hz
  show Calls Tryz.prog 17 #[.agg #[.int .i64 x0, .slice (some ⟨g, off, none⟩) n1 c1, .slice A2 n2 c2, .slice A3 n3 c3, .slice A4 n4 c4, .slice A5 n5 c5, .int .i64 x6, .slice A7 n7 c7, .slice A8 n8 c8, .slice A9 n9 c9]] W _
  cases z1
  case false =>
    go_enter Tryz.func17, Tryz.ntmps17
    go_wp2_with fail
    obtain ⟨wr, hwr⟩ : ∃ wr, W.alloc (.cells #[.int .i64 x0, .slice (some ⟨g, off, none⟩) n1 c1, .slice A2 n2 c2, .slice A3 n3 c3, .slice A4 n4 c4, .slice A5 n5 c5, .int .i64 x6, .slice A7 n7 c7, .slice A8 n8 c8, .slice A9 n9 c9] 62) = wr := ⟨_, rfl⟩
    rw [hwr]
    obtain ⟨g0, g2, g3⟩ := HC.out _ hwr.symm
    have HB0 : Hid (Below W.heap.size W wr) := g2
    have y0 := cell_regrown (g0.cell 0)
    have y1 := cell_regrown (g0.cell 1)
    have y2 := cell_regrown (g0.cell 2)
    have y3 := cell_regrown (g0.cell 3)
    have y4 := cell_regrown (g0.cell 4)
    have y5 := cell_regrown (g0.cell 5)
    have y6 := cell_regrown (g0.cell 6)
    have y7 := cell_regrown (g0.cell 7)
    have y8 := cell_regrown (g0.cell 8)
    have y9 := cell_regrown (g0.cell 9)
    have q0 : ∀ d os, Calls Tryz.prog 44 #[.agg #[.slice A2 n2 c2, .slice A3 n3 c3, .slice A4 n4 c4]] (grow (redrawn wr d) os) (fun e w'' => e = .returned (.bool false) ∧ ∃ q : Regrown, w'' = grow (redrawn wr q.d) q.os) := fun d os => by have h := Calls.regrown_of (w := wr) (d := d) (os := os) (impl_ValidScope_any ⟨x2, x3, x4⟩ ⟨A2, n2, c2, h2, A3, n3, c3, h3, A4, n4, c4, h4⟩ _ (HK1.out.go ((HB0.out).trans ((below_regrown wr d os).mono HB0.out.size))) (HT.out _ ((HB0.out).trans ((below_regrown wr d os).mono HB0.out.size)))); rw [HZ1.out] at h; exact h
    clear hwr g0 g2 g3 HC
    refine wp_region_quiet_below (by kernel_rfl) (by kernel_rfl) ?_
    repeat (first | go_big_quiet_step (exact q0 _ _) | quiet_step (exact q0 _ _))
    refine wpQuiet_nil ?_
    intro w4 hw'
    obtain ⟨⟨dq, osq⟩, hw''⟩ := hw'
    have HB4 : Hid (Below W.heap.size W w4) := by show Below _ _ _; rw [hw'']; exact HB0.out.trans ((below_regrown wr dq osq).mono HB0.out.size)
    clear hw'' y0 y1 y2 y3 y4 y5 y6 y7 y8 y9 q0
    go_wp2_with fail
    go_ret
    exact ⟨rfl, HB4.out⟩
  cases z2
  case false =>
    go_enter Tryz.func17, Tryz.ntmps17
    go_wp2_with fail
    obtain ⟨wr, hwr⟩ : ∃ wr, W.alloc (.cells #[.int .i64 x0, .slice (some ⟨g, off, none⟩) n1 c1, .slice A2 n2 c2, .slice A3 n3 c3, .slice A4 n4 c4, .slice A5 n5 c5, .int .i64 x6, .slice A7 n7 c7, .slice A8 n8 c8, .slice A9 n9 c9] 62) = wr := ⟨_, rfl⟩
    rw [hwr]
    obtain ⟨g0, g2, g3⟩ := HC.out _ hwr.symm
    have HB0 : Hid (Below W.heap.size W wr) := g2
    have y0 := cell_regrown (g0.cell 0)
    have y1 := cell_regrown (g0.cell 1)
    have y2 := cell_regrown (g0.cell 2)
    have y3 := cell_regrown (g0.cell 3)
    have y4 := cell_regrown (g0.cell 4)
    have y5 := cell_regrown (g0.cell 5)
    have y6 := cell_regrown (g0.cell 6)
    have y7 := cell_regrown (g0.cell 7)
    have y8 := cell_regrown (g0.cell 8)
    have y9 := cell_regrown (g0.cell 9)
    have q0 : ∀ d os, Calls Tryz.prog 44 #[.agg #[.slice A2 n2 c2, .slice A3 n3 c3, .slice A4 n4 c4]] (grow (redrawn wr d) os) (fun e w'' => e = .returned (.bool true) ∧ ∃ q : Regrown, w'' = grow (redrawn wr q.d) q.os) := fun d os => by have h := Calls.regrown_of (w := wr) (d := d) (os := os) (impl_ValidScope_any ⟨x2, x3, x4⟩ ⟨A2, n2, c2, h2, A3, n3, c3, h3, A4, n4, c4, h4⟩ _ (HK1.out.go ((HB0.out).trans ((below_regrown wr d os).mono HB0.out.size))) (HT.out _ ((HB0.out).trans ((below_regrown wr d os).mono HB0.out.size)))); rw [HZ1.out] at h; exact h
    have q1 : ∀ d os, Calls Tryz.prog 27 #[.agg #[.slice A5 n5 c5, .int .i64 x6, .slice A7 n7 c7, .slice A8 n8 c8, .slice A9 n9 c9]] (grow (redrawn wr d) os) (fun e w'' => e = .returned (.bool false) ∧ ∃ q : Regrown, w'' = grow (redrawn wr q.d) q.os) := fun d os => by have h := Calls.regrown_of (w := wr) (d := d) (os := os) (impl_ValidConsole_any ⟨x5, x6, x7, x8, x9⟩ ⟨A5, n5, c5, h5, A7, n7, c7, h7, A8, n8, c8, h8, A9, n9, c9, h9⟩ _ (HK2.out.go ((HB0.out).trans ((below_regrown wr d os).mono HB0.out.size))) (HT.out _ ((HB0.out).trans ((below_regrown wr d os).mono HB0.out.size)))); rw [HZ2.out] at h; exact h
    clear hwr g0 g2 g3 HC
    refine wp_region_quiet_below (by kernel_rfl) (by kernel_rfl) ?_
    repeat (first | go_big_quiet_step (first | exact q0 _ _ | exact q1 _ _) | quiet_step (first | exact q0 _ _ | exact q1 _ _))
    refine wpQuiet_nil ?_
    intro w4 hw'
    obtain ⟨⟨dq, osq⟩, hw''⟩ := hw'
    have HB4 : Hid (Below W.heap.size W w4) := by show Below _ _ _; rw [hw'']; exact HB0.out.trans ((below_regrown wr dq osq).mono HB0.out.size)
    clear hw'' y0 y1 y2 y3 y4 y5 y6 y7 y8 y9 q0 q1
    go_wp2_with fail
    go_ret
    exact ⟨rfl, HB4.out⟩
  go_enter Tryz.func17, Tryz.ntmps17
  go_wp2_with fail
  obtain ⟨wr, hwr⟩ : ∃ wr, W.alloc (.cells #[.int .i64 x0, .slice (some ⟨g, off, none⟩) n1 c1, .slice A2 n2 c2, .slice A3 n3 c3, .slice A4 n4 c4, .slice A5 n5 c5, .int .i64 x6, .slice A7 n7 c7, .slice A8 n8 c8, .slice A9 n9 c9] 62) = wr := ⟨_, rfl⟩
  rw [hwr]
  obtain ⟨g0, g2, g3⟩ := HC.out _ hwr.symm
  have HB0 : Hid (Below W.heap.size W wr.drew) := g2.drew
  have HR0 : Hid (RW 62 wr.drew W.heap.size #[.int .i64 x0, .slice (some ⟨g, off, none⟩) n1 c1, .slice A2 n2 c2, .slice A3 n3 c3, .slice A4 n4 c4, .slice A5 n5 c5, .int .i64 x6, .slice A7 n7 c7, .slice A8 n8 c8, .slice A9 n9 c9]) := g0
  have F0 : Hid (wr.drew.cell? ⟨W.heap.size, 0, none⟩ = some (.int .i64 x0) ∧ wr.drew.cell? ⟨W.heap.size, 1, none⟩ = some (.slice (some ⟨g, off, none⟩) n1 c1) ∧ wr.drew.cell? ⟨W.heap.size, 2, none⟩ = some (.slice A2 n2 c2) ∧ wr.drew.cell? ⟨W.heap.size, 3, none⟩ = some (.slice A3 n3 c3) ∧ wr.drew.cell? ⟨W.heap.size, 4, none⟩ = some (.slice A4 n4 c4) ∧ wr.drew.cell? ⟨W.heap.size, 5, none⟩ = some (.slice A5 n5 c5) ∧ wr.drew.cell? ⟨W.heap.size, 6, none⟩ = some (.int .i64 x6) ∧ wr.drew.cell? ⟨W.heap.size, 7, none⟩ = some (.slice A7 n7 c7) ∧ wr.drew.cell? ⟨W.heap.size, 8, none⟩ = some (.slice A8 n8 c8) ∧ wr.drew.cell? ⟨W.heap.size, 9, none⟩ = some (.slice A9 n9 c9)) := cellsMe HR0.out
  clear hwr g0 g2 g3 HC
  go_region_held3 (fun w' => w'.cell? ⟨W.heap.size, 0, none⟩ = some (.int .i64 x0) ∧ w'.cell? ⟨W.heap.size, 1, none⟩ = some (.slice (some ⟨g, off, none⟩) n1 c1) ∧ w'.cell? ⟨W.heap.size, 2, none⟩ = some (.slice A2 n2 c2) ∧ w'.cell? ⟨W.heap.size, 3, none⟩ = some (.slice A3 n3 c3) ∧ w'.cell? ⟨W.heap.size, 4, none⟩ = some (.slice A4 n4 c4) ∧ w'.cell? ⟨W.heap.size, 5, none⟩ = some (.slice A5 n5 c5) ∧ w'.cell? ⟨W.heap.size, 6, none⟩ = some (.int .i64 x6) ∧ w'.cell? ⟨W.heap.size, 7, none⟩ = some (.slice A7 n7 c7) ∧ w'.cell? ⟨W.heap.size, 8, none⟩ = some (.slice A8 n8 c8) ∧ w'.cell? ⟨W.heap.size, 9, none⟩ = some (.slice A9 n9 c9))
    (first | (exact F4.out) | (exact F3.out) | (exact F2.out) | (exact F1.out) | (exact F0.out))
    ((first
      | (go_at_call 44; refine (impl_ValidScope_any ⟨x2, x3, x4⟩ ⟨A2, n2, c2, h2, A3, n3, c3, h3, A4, n4, c4, h4⟩ _ (HK1.out.go HB0.out) (HT.out _ HB0.out)).mono ?_; rintro e w1 ⟨rfl, hb⟩; rw [HZ1.out]; have HB1 : Hid (Below W.heap.size W w1) := HB0.out.trans (hb.mono HB0.out.size); have HR1 : Hid (RW 62 w1 W.heap.size #[.int .i64 x0, .slice (some ⟨g, off, none⟩) n1 c1, .slice A2 n2 c2, .slice A3 n3 c3, .slice A4 n4 c4, .slice A5 n5 c5, .int .i64 x6, .slice A7 n7 c7, .slice A8 n8 c8, .slice A9 n9 c9]) := HR0.out.below hb HR0.out.lt; have F1 : Hid (w1.cell? ⟨W.heap.size, 0, none⟩ = some (.int .i64 x0) ∧ w1.cell? ⟨W.heap.size, 1, none⟩ = some (.slice (some ⟨g, off, none⟩) n1 c1) ∧ w1.cell? ⟨W.heap.size, 2, none⟩ = some (.slice A2 n2 c2) ∧ w1.cell? ⟨W.heap.size, 3, none⟩ = some (.slice A3 n3 c3) ∧ w1.cell? ⟨W.heap.size, 4, none⟩ = some (.slice A4 n4 c4) ∧ w1.cell? ⟨W.heap.size, 5, none⟩ = some (.slice A5 n5 c5) ∧ w1.cell? ⟨W.heap.size, 6, none⟩ = some (.int .i64 x6) ∧ w1.cell? ⟨W.heap.size, 7, none⟩ = some (.slice A7 n7 c7) ∧ w1.cell? ⟨W.heap.size, 8, none⟩ = some (.slice A8 n8 c8) ∧ w1.cell? ⟨W.heap.size, 9, none⟩ = some (.slice A9 n9 c9)) := cellsMe HR1.out; clear hb)
      | (go_at_call 27; refine (impl_ValidConsole_any ⟨x5, x6, x7, x8, x9⟩ ⟨A5, n5, c5, h5, A7, n7, c7, h7, A8, n8, c8, h8, A9, n9, c9, h9⟩ _ (HK2.out.go HB1.out) (HT.out _ HB1.out)).mono ?_; rintro e w2 ⟨rfl, hb⟩; rw [HZ2.out]; have HB2 : Hid (Below W.heap.size W w2) := HB1.out.trans (hb.mono HB1.out.size); have HR2 : Hid (RW 62 w2 W.heap.size #[.int .i64 x0, .slice (some ⟨g, off, none⟩) n1 c1, .slice A2 n2 c2, .slice A3 n3 c3, .slice A4 n4 c4, .slice A5 n5 c5, .int .i64 x6, .slice A7 n7 c7, .slice A8 n8 c8, .slice A9 n9 c9]) := HR1.out.below hb HR1.out.lt; have F2 : Hid (w2.cell? ⟨W.heap.size, 0, none⟩ = some (.int .i64 x0) ∧ w2.cell? ⟨W.heap.size, 1, none⟩ = some (.slice (some ⟨g, off, none⟩) n1 c1) ∧ w2.cell? ⟨W.heap.size, 2, none⟩ = some (.slice A2 n2 c2) ∧ w2.cell? ⟨W.heap.size, 3, none⟩ = some (.slice A3 n3 c3) ∧ w2.cell? ⟨W.heap.size, 4, none⟩ = some (.slice A4 n4 c4) ∧ w2.cell? ⟨W.heap.size, 5, none⟩ = some (.slice A5 n5 c5) ∧ w2.cell? ⟨W.heap.size, 6, none⟩ = some (.int .i64 x6) ∧ w2.cell? ⟨W.heap.size, 7, none⟩ = some (.slice A7 n7 c7) ∧ w2.cell? ⟨W.heap.size, 8, none⟩ = some (.slice A8 n8 c8) ∧ w2.cell? ⟨W.heap.size, 9, none⟩ = some (.slice A9 n9 c9)) := cellsMe HR2.out; clear hb)
      | (go_at_call 46; refine (impl_ScopeRoots_any ⟨x2, x3, x4⟩ ⟨A2, n2, c2, h2, A3, n3, c3, h3, A4, n4, c4, h4⟩ _ (HK1.out.go HB2.out) (HT.out _ HB2.out)).mono ?_; rintro e w3 ⟨Ar, cr, rfl, h⟩; obtain ⟨hvi, hb⟩ := h.out; have HVI := Lib.hid hvi; clear hvi h; have HB3 : Hid (Below W.heap.size W w3) := HB2.out.trans (hb.mono HB2.out.size); have HR3 : Hid (RW 62 w3 W.heap.size #[.int .i64 x0, .slice (some ⟨g, off, none⟩) n1 c1, .slice A2 n2 c2, .slice A3 n3 c3, .slice A4 n4 c4, .slice A5 n5 c5, .int .i64 x6, .slice A7 n7 c7, .slice A8 n8 c8, .slice A9 n9 c9]) := HR2.out.below hb HR2.out.lt; have F3 : Hid (w3.cell? ⟨W.heap.size, 0, none⟩ = some (.int .i64 x0) ∧ w3.cell? ⟨W.heap.size, 1, none⟩ = some (.slice (some ⟨g, off, none⟩) n1 c1) ∧ w3.cell? ⟨W.heap.size, 2, none⟩ = some (.slice A2 n2 c2) ∧ w3.cell? ⟨W.heap.size, 3, none⟩ = some (.slice A3 n3 c3) ∧ w3.cell? ⟨W.heap.size, 4, none⟩ = some (.slice A4 n4 c4) ∧ w3.cell? ⟨W.heap.size, 5, none⟩ = some (.slice A5 n5 c5) ∧ w3.cell? ⟨W.heap.size, 6, none⟩ = some (.int .i64 x6) ∧ w3.cell? ⟨W.heap.size, 7, none⟩ = some (.slice A7 n7 c7) ∧ w3.cell? ⟨W.heap.size, 8, none⟩ = some (.slice A8 n8 c8) ∧ w3.cell? ⟨W.heap.size, 9, none⟩ = some (.slice A9 n9 c9)) := cellsMe HR3.out; clear hb)
      | (go_at_call 45; refine (impl_ValidRoots_any x0 g off n1 c1 x1 Ar _ cr _ _ (HK0.out.go HB3.out) HVI.out (HT.out _ HB3.out)).mono ?_; rintro e w4 ⟨rfl, hb⟩; rw [HZ3.out]; have HB4 : Hid (Below W.heap.size W w4) := HB3.out.trans (hb.mono HB3.out.size); have HR4 : Hid (RW 62 w4 W.heap.size #[.int .i64 x0, .slice (some ⟨g, off, none⟩) n1 c1, .slice A2 n2 c2, .slice A3 n3 c3, .slice A4 n4 c4, .slice A5 n5 c5, .int .i64 x6, .slice A7 n7 c7, .slice A8 n8 c8, .slice A9 n9 c9]) := HR3.out.below hb HR3.out.lt; have F4 : Hid (w4.cell? ⟨W.heap.size, 0, none⟩ = some (.int .i64 x0) ∧ w4.cell? ⟨W.heap.size, 1, none⟩ = some (.slice (some ⟨g, off, none⟩) n1 c1) ∧ w4.cell? ⟨W.heap.size, 2, none⟩ = some (.slice A2 n2 c2) ∧ w4.cell? ⟨W.heap.size, 3, none⟩ = some (.slice A3 n3 c3) ∧ w4.cell? ⟨W.heap.size, 4, none⟩ = some (.slice A4 n4 c4) ∧ w4.cell? ⟨W.heap.size, 5, none⟩ = some (.slice A5 n5 c5) ∧ w4.cell? ⟨W.heap.size, 6, none⟩ = some (.int .i64 x6) ∧ w4.cell? ⟨W.heap.size, 7, none⟩ = some (.slice A7 n7 c7) ∧ w4.cell? ⟨W.heap.size, 8, none⟩ = some (.slice A8 n8 c8) ∧ w4.cell? ⟨W.heap.size, 9, none⟩ = some (.slice A9 n9 c9)) := cellsMe HR4.out; clear hb)))
  all_goals go_wp2_with fail
  all_goals go_ret
  all_goals exact ⟨rfl, HB4.out⟩

set_option maxHeartbeats 4000000 in
set_option maxRecDepth 100000 in
theorem spec_ValidMemory_any (x : Me) (l : MeLay) (W : World) (ho : MeV W W.heap.size x l) :
    Calls Tryz.prog 15 #[x.ag l] W fun e w' => e = .returned (.bool (meB x)) ∧ Below W.heap.size W w' := by
  rw [meB_spec]
  obtain ⟨x0, x1, x2, x3, x4, x5, x6, x7, x8, x9⟩ := x
  obtain ⟨A1, n1, c1, h1, A2, n2, c2, h2, A3, n3, c3, h3, A4, n4, c4, h4, A5, n5, c5, h5, A7, n7, c7, h7, A8, n8, c8, h8, A9, n9, c9, h9⟩ := l
  obtain ⟨k0, k1, k2⟩ := ho
  dsimp only at k0 k1 k2 ⊢
  have HK0 := Lib.hid k0
  have HK1 := Lib.hid k1
  have HK2 := Lib.hid k2
  have HC := Lib.hid (one_newS W 62 #[.int .i64 x0, .slice A1 n1 c1, .slice A2 n2 c2, .slice A3 n3 c3, .slice A4 n4 c4, .slice A5 n5 c5, .int .i64 x6, .slice A7 n7 c7, .slice A8 n8 c8, .slice A9 n9 c9])
  clear k0 k1 k2
  obtain ⟨z0, hz⟩ : ∃ z, tt (ValidH x0 x1) = z := ⟨_, rfl⟩
  have HZ0 := Lib.hid hz
  rw [hz]
  clear hz
  obtain ⟨z1, hz⟩ : ∃ z, tt (ScOk (⟨x2, x3, x4⟩ : Sc)) = z := ⟨_, rfl⟩
  have HZ1 := Lib.hid hz
  rw [hz]
  clear hz
  obtain ⟨z2, hz⟩ : ∃ z, consoleB (⟨x5, x6, x7, x8, x9⟩ : Cn) = z := ⟨_, rfl⟩
  have HZ2 := Lib.hid hz
  rw [hz]
  clear hz
  obtain ⟨z3, hz⟩ : ∃ z, tt (ValidH x0 x1 ∧ FitAll x1 (rootsV ⟨x2, x3, x4⟩)) = z := ⟨_, rfl⟩
  have HZ3 := Lib.hid hz
  rw [hz]
  clear hz
  show Calls Tryz.prog 15 #[.agg #[.int .i64 x0, .slice A1 n1 c1, .slice A2 n2 c2, .slice A3 n3 c3, .slice A4 n4 c4, .slice A5 n5 c5, .int .i64 x6, .slice A7 n7 c7, .slice A8 n8 c8, .slice A9 n9 c9]] W _
  cases z0
  case false =>
    go_enter Tryz.func15, Tryz.ntmps15
    go_wp2_with fail
    obtain ⟨wr, hwr⟩ : ∃ wr, W.alloc (.cells #[.int .i64 x0, .slice A1 n1 c1, .slice A2 n2 c2, .slice A3 n3 c3, .slice A4 n4 c4, .slice A5 n5 c5, .int .i64 x6, .slice A7 n7 c7, .slice A8 n8 c8, .slice A9 n9 c9] 62) = wr := ⟨_, rfl⟩
    rw [hwr]
    obtain ⟨g0, g2, g3⟩ := HC.out _ hwr.symm
    have HB0 : Hid (Below W.heap.size W wr) := g2
    have y0 := cell_regrown (g0.cell 0)
    have y1 := cell_regrown (g0.cell 1)
    have y2 := cell_regrown (g0.cell 2)
    have y3 := cell_regrown (g0.cell 3)
    have y4 := cell_regrown (g0.cell 4)
    have y5 := cell_regrown (g0.cell 5)
    have y6 := cell_regrown (g0.cell 6)
    have y7 := cell_regrown (g0.cell 7)
    have y8 := cell_regrown (g0.cell 8)
    have y9 := cell_regrown (g0.cell 9)
    have q0 : ∀ d os, Calls Tryz.prog 37 #[.agg #[.int .i64 x0, .slice A1 n1 c1]] (grow (redrawn wr d) os) (fun e w'' => e = .returned (.bool false) ∧ ∃ q : Regrown, w'' = grow (redrawn wr q.d) q.os) := fun d os => by have h := Calls.regrown_of (w := wr) (d := d) (os := os) (spec_ValidHeap_any x0 A1 n1 c1 x1 _ (HK0.out.go ((HB0.out).trans ((below_regrown wr d os).mono HB0.out.size)))); rw [HZ0.out] at h; exact h
    clear hwr g0 g2 g3 HC
    refine wp_region_quiet_below (by kernel_rfl) (by kernel_rfl) ?_
    repeat (first | go_big_quiet_step (exact q0 _ _) | quiet_step (exact q0 _ _))
    refine wpQuiet_nil ?_
    intro w4 hw'
    obtain ⟨⟨dq, osq⟩, hw''⟩ := hw'
    have HB4 : Hid (Below W.heap.size W w4) := by show Below _ _ _; rw [hw'']; exact HB0.out.trans ((below_regrown wr dq osq).mono HB0.out.size)
    clear hw'' y0 y1 y2 y3 y4 y5 y6 y7 y8 y9 q0
    go_wp2_with fail
    go_ret
    exact ⟨rfl, HB4.out⟩
  cases z1
  case false =>
    go_enter Tryz.func15, Tryz.ntmps15
    go_wp2_with fail
    obtain ⟨wr, hwr⟩ : ∃ wr, W.alloc (.cells #[.int .i64 x0, .slice A1 n1 c1, .slice A2 n2 c2, .slice A3 n3 c3, .slice A4 n4 c4, .slice A5 n5 c5, .int .i64 x6, .slice A7 n7 c7, .slice A8 n8 c8, .slice A9 n9 c9] 62) = wr := ⟨_, rfl⟩
    rw [hwr]
    obtain ⟨g0, g2, g3⟩ := HC.out _ hwr.symm
    have HB0 : Hid (Below W.heap.size W wr) := g2
    have y0 := cell_regrown (g0.cell 0)
    have y1 := cell_regrown (g0.cell 1)
    have y2 := cell_regrown (g0.cell 2)
    have y3 := cell_regrown (g0.cell 3)
    have y4 := cell_regrown (g0.cell 4)
    have y5 := cell_regrown (g0.cell 5)
    have y6 := cell_regrown (g0.cell 6)
    have y7 := cell_regrown (g0.cell 7)
    have y8 := cell_regrown (g0.cell 8)
    have y9 := cell_regrown (g0.cell 9)
    have q0 : ∀ d os, Calls Tryz.prog 37 #[.agg #[.int .i64 x0, .slice A1 n1 c1]] (grow (redrawn wr d) os) (fun e w'' => e = .returned (.bool true) ∧ ∃ q : Regrown, w'' = grow (redrawn wr q.d) q.os) := fun d os => by have h := Calls.regrown_of (w := wr) (d := d) (os := os) (spec_ValidHeap_any x0 A1 n1 c1 x1 _ (HK0.out.go ((HB0.out).trans ((below_regrown wr d os).mono HB0.out.size)))); rw [HZ0.out] at h; exact h
    have q1 : ∀ d os, Calls Tryz.prog 38 #[.agg #[.slice A2 n2 c2, .slice A3 n3 c3, .slice A4 n4 c4]] (grow (redrawn wr d) os) (fun e w'' => e = .returned (.bool false) ∧ ∃ q : Regrown, w'' = grow (redrawn wr q.d) q.os) := fun d os => by have h := Calls.regrown_of (w := wr) (d := d) (os := os) (spec_ValidScope_any ⟨x2, x3, x4⟩ ⟨A2, n2, c2, h2, A3, n3, c3, h3, A4, n4, c4, h4⟩ _ (HK1.out.go ((HB0.out).trans ((below_regrown wr d os).mono HB0.out.size)))); rw [HZ1.out] at h; exact h
    clear hwr g0 g2 g3 HC
    refine wp_region_quiet_below (by kernel_rfl) (by kernel_rfl) ?_
    repeat (first | go_big_quiet_step (first | exact q0 _ _ | exact q1 _ _) | quiet_step (first | exact q0 _ _ | exact q1 _ _))
    refine wpQuiet_nil ?_
    intro w4 hw'
    obtain ⟨⟨dq, osq⟩, hw''⟩ := hw'
    have HB4 : Hid (Below W.heap.size W w4) := by show Below _ _ _; rw [hw'']; exact HB0.out.trans ((below_regrown wr dq osq).mono HB0.out.size)
    clear hw'' y0 y1 y2 y3 y4 y5 y6 y7 y8 y9 q0 q1
    go_wp2_with fail
    go_ret
    exact ⟨rfl, HB4.out⟩
  cases z2
  case false =>
    go_enter Tryz.func15, Tryz.ntmps15
    go_wp2_with fail
    obtain ⟨wr, hwr⟩ : ∃ wr, W.alloc (.cells #[.int .i64 x0, .slice A1 n1 c1, .slice A2 n2 c2, .slice A3 n3 c3, .slice A4 n4 c4, .slice A5 n5 c5, .int .i64 x6, .slice A7 n7 c7, .slice A8 n8 c8, .slice A9 n9 c9] 62) = wr := ⟨_, rfl⟩
    rw [hwr]
    obtain ⟨g0, g2, g3⟩ := HC.out _ hwr.symm
    have HB0 : Hid (Below W.heap.size W wr) := g2
    have y0 := cell_regrown (g0.cell 0)
    have y1 := cell_regrown (g0.cell 1)
    have y2 := cell_regrown (g0.cell 2)
    have y3 := cell_regrown (g0.cell 3)
    have y4 := cell_regrown (g0.cell 4)
    have y5 := cell_regrown (g0.cell 5)
    have y6 := cell_regrown (g0.cell 6)
    have y7 := cell_regrown (g0.cell 7)
    have y8 := cell_regrown (g0.cell 8)
    have y9 := cell_regrown (g0.cell 9)
    have q0 : ∀ d os, Calls Tryz.prog 37 #[.agg #[.int .i64 x0, .slice A1 n1 c1]] (grow (redrawn wr d) os) (fun e w'' => e = .returned (.bool true) ∧ ∃ q : Regrown, w'' = grow (redrawn wr q.d) q.os) := fun d os => by have h := Calls.regrown_of (w := wr) (d := d) (os := os) (spec_ValidHeap_any x0 A1 n1 c1 x1 _ (HK0.out.go ((HB0.out).trans ((below_regrown wr d os).mono HB0.out.size)))); rw [HZ0.out] at h; exact h
    have q1 : ∀ d os, Calls Tryz.prog 38 #[.agg #[.slice A2 n2 c2, .slice A3 n3 c3, .slice A4 n4 c4]] (grow (redrawn wr d) os) (fun e w'' => e = .returned (.bool true) ∧ ∃ q : Regrown, w'' = grow (redrawn wr q.d) q.os) := fun d os => by have h := Calls.regrown_of (w := wr) (d := d) (os := os) (spec_ValidScope_any ⟨x2, x3, x4⟩ ⟨A2, n2, c2, h2, A3, n3, c3, h3, A4, n4, c4, h4⟩ _ (HK1.out.go ((HB0.out).trans ((below_regrown wr d os).mono HB0.out.size)))); rw [HZ1.out] at h; exact h
    have q2 : ∀ d os, Calls Tryz.prog 39 #[.agg #[.slice A5 n5 c5, .int .i64 x6, .slice A7 n7 c7, .slice A8 n8 c8, .slice A9 n9 c9]] (grow (redrawn wr d) os) (fun e w'' => e = .returned (.bool false) ∧ ∃ q : Regrown, w'' = grow (redrawn wr q.d) q.os) := fun d os => by have h := Calls.regrown_of (w := wr) (d := d) (os := os) (spec_ValidConsole_any ⟨x5, x6, x7, x8, x9⟩ ⟨A5, n5, c5, h5, A7, n7, c7, h7, A8, n8, c8, h8, A9, n9, c9, h9⟩ _ (HK2.out.go ((HB0.out).trans ((below_regrown wr d os).mono HB0.out.size)))); rw [HZ2.out] at h; exact h
    clear hwr g0 g2 g3 HC
    refine wp_region_quiet_below (by kernel_rfl) (by kernel_rfl) ?_
    repeat (first | go_big_quiet_step (first | exact q0 _ _ | exact q1 _ _ | exact q2 _ _) | quiet_step (first | exact q0 _ _ | exact q1 _ _ | exact q2 _ _))
    refine wpQuiet_nil ?_
    intro w4 hw'
    obtain ⟨⟨dq, osq⟩, hw''⟩ := hw'
    have HB4 : Hid (Below W.heap.size W w4) := by show Below _ _ _; rw [hw'']; exact HB0.out.trans ((below_regrown wr dq osq).mono HB0.out.size)
    clear hw'' y0 y1 y2 y3 y4 y5 y6 y7 y8 y9 q0 q1 q2
    go_wp2_with fail
    go_ret
    exact ⟨rfl, HB4.out⟩
  go_enter Tryz.func15, Tryz.ntmps15
  go_wp2_with fail
  obtain ⟨wr, hwr⟩ : ∃ wr, W.alloc (.cells #[.int .i64 x0, .slice A1 n1 c1, .slice A2 n2 c2, .slice A3 n3 c3, .slice A4 n4 c4, .slice A5 n5 c5, .int .i64 x6, .slice A7 n7 c7, .slice A8 n8 c8, .slice A9 n9 c9] 62) = wr := ⟨_, rfl⟩
  rw [hwr]
  obtain ⟨g0, g2, g3⟩ := HC.out _ hwr.symm
  have HB0 : Hid (Below W.heap.size W wr.drew) := g2.drew
  have HR0 : Hid (RW 62 wr.drew W.heap.size #[.int .i64 x0, .slice A1 n1 c1, .slice A2 n2 c2, .slice A3 n3 c3, .slice A4 n4 c4, .slice A5 n5 c5, .int .i64 x6, .slice A7 n7 c7, .slice A8 n8 c8, .slice A9 n9 c9]) := g0
  have F0 : Hid (wr.drew.cell? ⟨W.heap.size, 0, none⟩ = some (.int .i64 x0) ∧ wr.drew.cell? ⟨W.heap.size, 1, none⟩ = some (.slice A1 n1 c1) ∧ wr.drew.cell? ⟨W.heap.size, 2, none⟩ = some (.slice A2 n2 c2) ∧ wr.drew.cell? ⟨W.heap.size, 3, none⟩ = some (.slice A3 n3 c3) ∧ wr.drew.cell? ⟨W.heap.size, 4, none⟩ = some (.slice A4 n4 c4) ∧ wr.drew.cell? ⟨W.heap.size, 5, none⟩ = some (.slice A5 n5 c5) ∧ wr.drew.cell? ⟨W.heap.size, 6, none⟩ = some (.int .i64 x6) ∧ wr.drew.cell? ⟨W.heap.size, 7, none⟩ = some (.slice A7 n7 c7) ∧ wr.drew.cell? ⟨W.heap.size, 8, none⟩ = some (.slice A8 n8 c8) ∧ wr.drew.cell? ⟨W.heap.size, 9, none⟩ = some (.slice A9 n9 c9)) := cellsMe HR0.out
  clear hwr g0 g2 g3 HC
  go_region_held3 (fun w' => w'.cell? ⟨W.heap.size, 0, none⟩ = some (.int .i64 x0) ∧ w'.cell? ⟨W.heap.size, 1, none⟩ = some (.slice A1 n1 c1) ∧ w'.cell? ⟨W.heap.size, 2, none⟩ = some (.slice A2 n2 c2) ∧ w'.cell? ⟨W.heap.size, 3, none⟩ = some (.slice A3 n3 c3) ∧ w'.cell? ⟨W.heap.size, 4, none⟩ = some (.slice A4 n4 c4) ∧ w'.cell? ⟨W.heap.size, 5, none⟩ = some (.slice A5 n5 c5) ∧ w'.cell? ⟨W.heap.size, 6, none⟩ = some (.int .i64 x6) ∧ w'.cell? ⟨W.heap.size, 7, none⟩ = some (.slice A7 n7 c7) ∧ w'.cell? ⟨W.heap.size, 8, none⟩ = some (.slice A8 n8 c8) ∧ w'.cell? ⟨W.heap.size, 9, none⟩ = some (.slice A9 n9 c9))
    (first | (exact F5.out) | (exact F4.out) | (exact F3.out) | (exact F2.out) | (exact F1.out) | (exact F0.out))
    ((first
      | (go_at_call 37; refine (spec_ValidHeap_any x0 A1 n1 c1 x1 _ (HK0.out.go HB0.out)).mono ?_; rintro e w1 ⟨rfl, hb⟩; rw [HZ0.out]; have HB1 : Hid (Below W.heap.size W w1) := HB0.out.trans (hb.mono HB0.out.size); have HR1 : Hid (RW 62 w1 W.heap.size #[.int .i64 x0, .slice A1 n1 c1, .slice A2 n2 c2, .slice A3 n3 c3, .slice A4 n4 c4, .slice A5 n5 c5, .int .i64 x6, .slice A7 n7 c7, .slice A8 n8 c8, .slice A9 n9 c9]) := HR0.out.below hb HR0.out.lt; have F1 : Hid (w1.cell? ⟨W.heap.size, 0, none⟩ = some (.int .i64 x0) ∧ w1.cell? ⟨W.heap.size, 1, none⟩ = some (.slice A1 n1 c1) ∧ w1.cell? ⟨W.heap.size, 2, none⟩ = some (.slice A2 n2 c2) ∧ w1.cell? ⟨W.heap.size, 3, none⟩ = some (.slice A3 n3 c3) ∧ w1.cell? ⟨W.heap.size, 4, none⟩ = some (.slice A4 n4 c4) ∧ w1.cell? ⟨W.heap.size, 5, none⟩ = some (.slice A5 n5 c5) ∧ w1.cell? ⟨W.heap.size, 6, none⟩ = some (.int .i64 x6) ∧ w1.cell? ⟨W.heap.size, 7, none⟩ = some (.slice A7 n7 c7) ∧ w1.cell? ⟨W.heap.size, 8, none⟩ = some (.slice A8 n8 c8) ∧ w1.cell? ⟨W.heap.size, 9, none⟩ = some (.slice A9 n9 c9)) := cellsMe HR1.out; clear hb)
      | (go_at_call 38; refine (spec_ValidScope_any ⟨x2, x3, x4⟩ ⟨A2, n2, c2, h2, A3, n3, c3, h3, A4, n4, c4, h4⟩ _ (HK1.out.go HB1.out)).mono ?_; rintro e w2 ⟨rfl, hb⟩; rw [HZ1.out]; have HB2 : Hid (Below W.heap.size W w2) := HB1.out.trans (hb.mono HB1.out.size); have HR2 : Hid (RW 62 w2 W.heap.size #[.int .i64 x0, .slice A1 n1 c1, .slice A2 n2 c2, .slice A3 n3 c3, .slice A4 n4 c4, .slice A5 n5 c5, .int .i64 x6, .slice A7 n7 c7, .slice A8 n8 c8, .slice A9 n9 c9]) := HR1.out.below hb HR1.out.lt; have F2 : Hid (w2.cell? ⟨W.heap.size, 0, none⟩ = some (.int .i64 x0) ∧ w2.cell? ⟨W.heap.size, 1, none⟩ = some (.slice A1 n1 c1) ∧ w2.cell? ⟨W.heap.size, 2, none⟩ = some (.slice A2 n2 c2) ∧ w2.cell? ⟨W.heap.size, 3, none⟩ = some (.slice A3 n3 c3) ∧ w2.cell? ⟨W.heap.size, 4, none⟩ = some (.slice A4 n4 c4) ∧ w2.cell? ⟨W.heap.size, 5, none⟩ = some (.slice A5 n5 c5) ∧ w2.cell? ⟨W.heap.size, 6, none⟩ = some (.int .i64 x6) ∧ w2.cell? ⟨W.heap.size, 7, none⟩ = some (.slice A7 n7 c7) ∧ w2.cell? ⟨W.heap.size, 8, none⟩ = some (.slice A8 n8 c8) ∧ w2.cell? ⟨W.heap.size, 9, none⟩ = some (.slice A9 n9 c9)) := cellsMe HR2.out; clear hb)
      | (go_at_call 39; refine (spec_ValidConsole_any ⟨x5, x6, x7, x8, x9⟩ ⟨A5, n5, c5, h5, A7, n7, c7, h7, A8, n8, c8, h8, A9, n9, c9, h9⟩ _ (HK2.out.go HB2.out)).mono ?_; rintro e w3 ⟨rfl, hb⟩; rw [HZ2.out]; have HB3 : Hid (Below W.heap.size W w3) := HB2.out.trans (hb.mono HB2.out.size); have HR3 : Hid (RW 62 w3 W.heap.size #[.int .i64 x0, .slice A1 n1 c1, .slice A2 n2 c2, .slice A3 n3 c3, .slice A4 n4 c4, .slice A5 n5 c5, .int .i64 x6, .slice A7 n7 c7, .slice A8 n8 c8, .slice A9 n9 c9]) := HR2.out.below hb HR2.out.lt; have F3 : Hid (w3.cell? ⟨W.heap.size, 0, none⟩ = some (.int .i64 x0) ∧ w3.cell? ⟨W.heap.size, 1, none⟩ = some (.slice A1 n1 c1) ∧ w3.cell? ⟨W.heap.size, 2, none⟩ = some (.slice A2 n2 c2) ∧ w3.cell? ⟨W.heap.size, 3, none⟩ = some (.slice A3 n3 c3) ∧ w3.cell? ⟨W.heap.size, 4, none⟩ = some (.slice A4 n4 c4) ∧ w3.cell? ⟨W.heap.size, 5, none⟩ = some (.slice A5 n5 c5) ∧ w3.cell? ⟨W.heap.size, 6, none⟩ = some (.int .i64 x6) ∧ w3.cell? ⟨W.heap.size, 7, none⟩ = some (.slice A7 n7 c7) ∧ w3.cell? ⟨W.heap.size, 8, none⟩ = some (.slice A8 n8 c8) ∧ w3.cell? ⟨W.heap.size, 9, none⟩ = some (.slice A9 n9 c9)) := cellsMe HR3.out; clear hb)
      | (go_at_call 41; refine (spec_ScopeRoots_any ⟨x2, x3, x4⟩ ⟨A2, n2, c2, h2, A3, n3, c3, h3, A4, n4, c4, h4⟩ _ (HK1.out.go HB3.out)).mono ?_; rintro e w4 ⟨Ar, cr, rfl, h⟩; obtain ⟨hvi, hb⟩ := h.out; have HVI := Lib.hid hvi; clear hvi h; have HB4 : Hid (Below W.heap.size W w4) := HB3.out.trans (hb.mono HB3.out.size); have HR4 : Hid (RW 62 w4 W.heap.size #[.int .i64 x0, .slice A1 n1 c1, .slice A2 n2 c2, .slice A3 n3 c3, .slice A4 n4 c4, .slice A5 n5 c5, .int .i64 x6, .slice A7 n7 c7, .slice A8 n8 c8, .slice A9 n9 c9]) := HR3.out.below hb HR3.out.lt; have F4 : Hid (w4.cell? ⟨W.heap.size, 0, none⟩ = some (.int .i64 x0) ∧ w4.cell? ⟨W.heap.size, 1, none⟩ = some (.slice A1 n1 c1) ∧ w4.cell? ⟨W.heap.size, 2, none⟩ = some (.slice A2 n2 c2) ∧ w4.cell? ⟨W.heap.size, 3, none⟩ = some (.slice A3 n3 c3) ∧ w4.cell? ⟨W.heap.size, 4, none⟩ = some (.slice A4 n4 c4) ∧ w4.cell? ⟨W.heap.size, 5, none⟩ = some (.slice A5 n5 c5) ∧ w4.cell? ⟨W.heap.size, 6, none⟩ = some (.int .i64 x6) ∧ w4.cell? ⟨W.heap.size, 7, none⟩ = some (.slice A7 n7 c7) ∧ w4.cell? ⟨W.heap.size, 8, none⟩ = some (.slice A8 n8 c8) ∧ w4.cell? ⟨W.heap.size, 9, none⟩ = some (.slice A9 n9 c9)) := cellsMe HR4.out; clear hb)
      | (go_at_call 40; refine (l17Fits_any x0 A1 n1 c1 x1 Ar _ cr _ _ (HK0.out.go HB4.out) HVI.out).mono ?_; rintro e w5 ⟨rfl, hb⟩; rw [HZ3.out]; have HB5 : Hid (Below W.heap.size W w5) := HB4.out.trans (hb.mono HB4.out.size); have HR5 : Hid (RW 62 w5 W.heap.size #[.int .i64 x0, .slice A1 n1 c1, .slice A2 n2 c2, .slice A3 n3 c3, .slice A4 n4 c4, .slice A5 n5 c5, .int .i64 x6, .slice A7 n7 c7, .slice A8 n8 c8, .slice A9 n9 c9]) := HR4.out.below hb HR4.out.lt; have F5 : Hid (w5.cell? ⟨W.heap.size, 0, none⟩ = some (.int .i64 x0) ∧ w5.cell? ⟨W.heap.size, 1, none⟩ = some (.slice A1 n1 c1) ∧ w5.cell? ⟨W.heap.size, 2, none⟩ = some (.slice A2 n2 c2) ∧ w5.cell? ⟨W.heap.size, 3, none⟩ = some (.slice A3 n3 c3) ∧ w5.cell? ⟨W.heap.size, 4, none⟩ = some (.slice A4 n4 c4) ∧ w5.cell? ⟨W.heap.size, 5, none⟩ = some (.slice A5 n5 c5) ∧ w5.cell? ⟨W.heap.size, 6, none⟩ = some (.int .i64 x6) ∧ w5.cell? ⟨W.heap.size, 7, none⟩ = some (.slice A7 n7 c7) ∧ w5.cell? ⟨W.heap.size, 8, none⟩ = some (.slice A8 n8 c8) ∧ w5.cell? ⟨W.heap.size, 9, none⟩ = some (.slice A9 n9 c9)) := cellsMe HR5.out; clear hb)))
  all_goals go_wp2_with fail
  all_goals go_ret
  all_goals exact ⟨rfl, HB5.out⟩
end Go.Proofs.YtfcpdjfckeoniaaGreatDoor

namespace Go.Proofs.YtfcpdjfckeoniaaGreatDoor
open Go Go.RowKit

set_option maxHeartbeats 4000000 in
set_option maxRecDepth 100000 in
theorem walk_FnExactValidMemory (x : Me) (l : MeLay) (W : World) (ha : MeV W W.heap.size x l) (hL : laidMetH Tryz.prog Rows.fnExactValidMemoryRow.laid W) :
    Calls Tryz.prog 4 #[x.ag l] W fun e w' => e = .returned (.bool true) ∧ Below W.heap.size W w' := by
  have h1 : laidMet Tryz.prog [("loop.example/g00873/impl.byteClasses", Rows.laid_loop_example_g00873_impl_byteClasses)] W := hL
  have hT : Classes W := Lib.tabIs_of_head (rest := []) gClasses (by kernel_rfl) Tryz.underlying190 Tryz.underlying5 (by kernel_rfl) (by kernel_rfl) h1
  have HT := Lib.hid hT
  clear hL h1 hT
  obtain ⟨r, hr⟩ : ∃ r, meB x = r := ⟨_, rfl⟩
  have HRES := Lib.hid hr
  have HSP := Lib.hid (fun (w : World) (m : MeLay) (h : MeV w w.heap.size x m) => (show Calls Tryz.prog 15 #[x.ag m] w fun e w' => e = .returned (.bool r) ∧ Below w.heap.size w w' from by have := spec_ValidMemory_any x m w h; rw [hr] at this; exact this))
  have HIM := Lib.hid (fun (w : World) (m : MeLay) (h : MeV w w.heap.size x m) (hA : ∃ g, m.A1 = some ⟨g, 0, none⟩) (hT : Classes w) => (show Calls Tryz.prog 17 #[x.ag m] w fun e w' => e = .returned (.bool r) ∧ Below w.heap.size w w' from by have := impl_ValidMemory_any x m w h (hA.elim fun g e => ⟨g, 0, e⟩) hT; rw [hr] at this; exact this))
  clear hr HRES
  obtain ⟨x0, x1, x2, x3, x4, x5, x6, x7, x8, x9⟩ := x
  obtain ⟨A1, n1, c1, h1, A2, n2, c2, h2, A3, n3, c3, h3, A4, n4, c4, h4, A5, n5, c5, h5, A7, n7, c7, h7, A8, n8, c8, h8, A9, n9, c9, h9⟩ := l
  have HA := Lib.hid ha
  have HC := Lib.hid (one_new1 W 50 #[.int .i64 x0, .slice A1 n1 c1, .slice A2 n2 c2, .slice A3 n3 c3, .slice A4 n4 c4, .slice A5 n5 c5, .int .i64 x6, .slice A7 n7 c7, .slice A8 n8 c8, .slice A9 n9 c9])
  show Calls Tryz.prog 4 #[.agg #[.int .i64 x0, .slice A1 n1 c1, .slice A2 n2 c2, .slice A3 n3 c3, .slice A4 n4 c4, .slice A5 n5 c5, .int .i64 x6, .slice A7 n7 c7, .slice A8 n8 c8, .slice A9 n9 c9]] W _
  by_cases cz1 : (szMe1 ⟨x0, x1, x2, x3, x4, x5, x6, x7, x8, x9⟩ : Int) ≤ 1048576
  rotate_left
  · have C1 := Lib.hid cz1
    clear cz1 ha
    go_enter Tryz.func4, Tryz.ntmps4
    go_wp2_with (go_at_call 14; obtain ⟨g0, g1, g2⟩ := HC.out _ rfl; have HQ := szMemory_any ⟨x0, x1, x2, x3, x4, x5, x6, x7, x8, x9⟩ ⟨A1, n1, c1, h1, A2, n2, c2, h2, A3, n3, c3, h3, A4, n4, c4, h4, A5, n5, c5, h5, A7, n7, c7, h7, A8, n8, c8, h8, A9, n9, c9, h9⟩ 1048576 _ (HA.out.go g1) (by decide) (by decide); refine Calls.mono HQ ?_; clear HQ; intro e w1 h; obtain ⟨rfl, hb⟩ := h.long C1.out; have HB1 := Lib.hid (g1.trans (hb.mono g1.size)); clear g0 g1 g2 h hb HC)
    go_ret
    exact ⟨rfl, HB1.out⟩
  have C1 := Lib.hid cz1
  have hsm := small_Me1 cz1
  have TA := Lib.hid (fun (w : World) (hb : Below W.heap.size W w) => toMemory_any ⟨x0, x1, x2, x3, x4, x5, x6, x7, x8, x9⟩ ⟨A1, n1, c1, h1, A2, n2, c2, h2, A3, n3, c3, h3, A4, n4, c4, h4, A5, n5, c5, h5, A7, n7, c7, h7, A8, n8, c8, h8, A9, n9, c9, h9⟩ w (ha.go hb) hsm)
  clear cz1 ha hsm
  have tk1 : True := trivial
  have tk2 : True := trivial
  go_enter Tryz.func4, Tryz.ntmps4
  go_wp2_with (first
    | (go_at_call 14; obtain ⟨g0, g1, g2⟩ := HC.out _ rfl; have HQ := szMemory_any ⟨x0, x1, x2, x3, x4, x5, x6, x7, x8, x9⟩ ⟨A1, n1, c1, h1, A2, n2, c2, h2, A3, n3, c3, h3, A4, n4, c4, h4, A5, n5, c5, h5, A7, n7, c7, h7, A8, n8, c8, h8, A9, n9, c9, h9⟩ 1048576 _ (HA.out.go g1) (by decide) (by decide); refine Calls.mono HQ ?_; clear HQ; intro e w1 h; obtain ⟨z1, rfl, hz1, _, _, hb⟩ := h.fits C1.out (by decide); have d1 : decide (z1 < 0) = false := (by simp; omega); have HA1 := Lib.hid (g0.below hb g2); have HB1 := Lib.hid (g1.trans (hb.mono g1.size)); have p0 : w1.cell? ⟨W.heap.size, 0, none⟩ = some (.int .i64 x0) := HA1.out.cell 0; have p1 : w1.cell? ⟨W.heap.size, 1, none⟩ = some (.slice A1 n1 c1) := HA1.out.cell 1; have p2 : w1.cell? ⟨W.heap.size, 2, none⟩ = some (.slice A2 n2 c2) := HA1.out.cell 2; have p3 : w1.cell? ⟨W.heap.size, 3, none⟩ = some (.slice A3 n3 c3) := HA1.out.cell 3; have p4 : w1.cell? ⟨W.heap.size, 4, none⟩ = some (.slice A4 n4 c4) := HA1.out.cell 4; have p5 : w1.cell? ⟨W.heap.size, 5, none⟩ = some (.slice A5 n5 c5) := HA1.out.cell 5; have p6 : w1.cell? ⟨W.heap.size, 6, none⟩ = some (.int .i64 x6) := HA1.out.cell 6; have p7 : w1.cell? ⟨W.heap.size, 7, none⟩ = some (.slice A7 n7 c7) := HA1.out.cell 7; have p8 : w1.cell? ⟨W.heap.size, 8, none⟩ = some (.slice A8 n8 c8) := HA1.out.cell 8; have p9 : w1.cell? ⟨W.heap.size, 9, none⟩ = some (.slice A9 n9 c9) := HA1.out.cell 9; clear g0 g1 g2 h hb hz1 HC)
    | (go_at_call 16; have tk := tk1; have HQ := TA.out _ HB1.out; refine Calls.mono HQ ?_; clear HQ; rintro e w2 ⟨⟨A1m, n1m, c1m, h1m, A2m, n2m, c2m, h2m, A3m, n3m, c3m, h3m, A4m, n4m, c4m, h4m, A5m, n5m, c5m, h5m, A7m, n7m, c7m, h7m, A8m, n8m, c8m, h8m, A9m, n9m, c9m, h9m⟩, he, h⟩; obtain rfl : e = .returned (.agg #[.int .i64 x0, .slice A1m n1m c1m, .slice A2m n2m c2m, .slice A3m n3m c3m, .slice A4m n4m c4m, .slice A5m n5m c5m, .int .i64 x6, .slice A7m n7m c7m, .slice A8m n8m c8m, .slice A9m n9m c9m]) := he; obtain ⟨hv, hb, hq⟩ := h.out; clear hq; have HV2 := Lib.hid hv; have HA2 := Lib.hid (HA1.out.below hb HA1.out.lt); have HB2 := Lib.hid (HB1.out.trans (hb.mono HB1.out.size)); clear h hv hb p0 p1 p2 p3 p4 p5 p6 p7 p8 p9 tk tk1)
    | (go_at_call 15; have HQ := HSP.out _ ⟨A1m, n1m, c1m, h1m, A2m, n2m, c2m, h2m, A3m, n3m, c3m, h3m, A4m, n4m, c4m, h4m, A5m, n5m, c5m, h5m, A7m, n7m, c7m, h7m, A8m, n8m, c8m, h8m, A9m, n9m, c9m, h9m⟩ HV2.out; refine Calls.mono HQ ?_; clear HQ; rintro e w3 ⟨rfl, hb⟩; have HA3 := Lib.hid (HA2.out.below hb HA2.out.lt); have HB3 := Lib.hid (HB2.out.trans (hb.mono HB2.out.size)); have p0 : w3.cell? ⟨W.heap.size, 0, none⟩ = some (.int .i64 x0) := HA3.out.cell 0; have p1 : w3.cell? ⟨W.heap.size, 1, none⟩ = some (.slice A1 n1 c1) := HA3.out.cell 1; have p2 : w3.cell? ⟨W.heap.size, 2, none⟩ = some (.slice A2 n2 c2) := HA3.out.cell 2; have p3 : w3.cell? ⟨W.heap.size, 3, none⟩ = some (.slice A3 n3 c3) := HA3.out.cell 3; have p4 : w3.cell? ⟨W.heap.size, 4, none⟩ = some (.slice A4 n4 c4) := HA3.out.cell 4; have p5 : w3.cell? ⟨W.heap.size, 5, none⟩ = some (.slice A5 n5 c5) := HA3.out.cell 5; have p6 : w3.cell? ⟨W.heap.size, 6, none⟩ = some (.int .i64 x6) := HA3.out.cell 6; have p7 : w3.cell? ⟨W.heap.size, 7, none⟩ = some (.slice A7 n7 c7) := HA3.out.cell 7; have p8 : w3.cell? ⟨W.heap.size, 8, none⟩ = some (.slice A8 n8 c8) := HA3.out.cell 8; have p9 : w3.cell? ⟨W.heap.size, 9, none⟩ = some (.slice A9 n9 c9) := HA3.out.cell 9; clear hb HV2)
    | (go_at_call 16; have tk := tk2; have HQ := TA.out _ HB3.out; refine Calls.mono HQ ?_; clear HQ; rintro e w4 ⟨⟨A1q, n1q, c1q, h1q, A2q, n2q, c2q, h2q, A3q, n3q, c3q, h3q, A4q, n4q, c4q, h4q, A5q, n5q, c5q, h5q, A7q, n7q, c7q, h7q, A8q, n8q, c8q, h8q, A9q, n9q, c9q, h9q⟩, he, h⟩; obtain rfl : e = .returned (.agg #[.int .i64 x0, .slice A1q n1q c1q, .slice A2q n2q c2q, .slice A3q n3q c3q, .slice A4q n4q c4q, .slice A5q n5q c5q, .int .i64 x6, .slice A7q n7q c7q, .slice A8q n8q c8q, .slice A9q n9q c9q]) := he; obtain ⟨hv, hb, hq⟩ := h.out; have HQ4 := Lib.hid hq; clear hq; have HA4 := Lib.hid ((HA3.out.below hb HA3.out.lt).alloc (.cells #[.int .i64 x0, .slice A1q n1q c1q, .slice A2q n2q c2q, .slice A3q n3q c3q, .slice A4q n4q c4q, .slice A5q n5q c5q, .int .i64 x6, .slice A7q n7q c7q, .slice A8q n8q c8q, .slice A9q n9q c9q] 62)); have HB4 := Lib.hid ((HB3.out.trans (hb.mono HB3.out.size)).alloc (HB3.out.trans (hb.mono HB3.out.size)).size (.cells #[.int .i64 x0, .slice A1q n1q c1q, .slice A2q n2q c2q, .slice A3q n3q c3q, .slice A4q n4q c4q, .slice A5q n5q c5q, .int .i64 x6, .slice A7q n7q c7q, .slice A8q n8q c8q, .slice A9q n9q c9q] 62)); have HX4 := Lib.hid (RW.new w4 #[.int .i64 x0, .slice A1q n1q c1q, .slice A2q n2q c2q, .slice A3q n3q c3q, .slice A4q n4q c4q, .slice A5q n5q c5q, .int .i64 x6, .slice A7q n7q c7q, .slice A8q n8q c8q, .slice A9q n9q c9q] 62); have HV4 := Lib.hid (hv.go (below_alloc w4 (.cells #[.int .i64 x0, .slice A1q n1q c1q, .slice A2q n2q c2q, .slice A3q n3q c3q, .slice A4q n4q c4q, .slice A5q n5q c5q, .int .i64 x6, .slice A7q n7q c7q, .slice A8q n8q c8q, .slice A9q n9q c9q] 62))); clear h hv hb p0 p1 p2 p3 p4 p5 p6 p7 p8 p9 tk tk2)
    | (go_at_call 17; have HQ := HIM.out _ ⟨A1q, n1q, c1q, h1q, A2q, n2q, c2q, h2q, A3q, n3q, c3q, h3q, A4q, n4q, c4q, h4q, A5q, n5q, c5q, h5q, A7q, n7q, c7q, h7q, A8q, n8q, c8q, h8q, A9q, n9q, c9q, h9q⟩ HV4.out HQ4.out (classes_go HT.out HB4.out); refine Calls.mono HQ ?_; clear HQ; rintro e w5 ⟨rfl, hb⟩; have HA5 := Lib.hid (HA4.out.below hb HA4.out.lt); have HB5 := Lib.hid (HB4.out.trans (hb.mono HB4.out.size)); have HX5 := Lib.hid (HX4.out.below hb HX4.out.lt); have HV5 := Lib.hid (HV4.out.go hb); clear hb))
  have H0 := Lib.hid (show RW 50 w5.drew W.heap.size #[.int .i64 x0, .slice A1 n1 c1, .slice A2 n2 c2, .slice A3 n3 c3, .slice A4 n4 c4, .slice A5 n5 c5, .int .i64 x6, .slice A7 n7 c7, .slice A8 n8 c8, .slice A9 n9 c9] ∧ RW 62 w5.drew w4.heap.size #[.int .i64 x0, .slice A1q n1q c1q, .slice A2q n2q c2q, .slice A3q n3q c3q, .slice A4q n4q c4q, .slice A5q n5q c5q, .int .i64 x6, .slice A7q n7q c7q, .slice A8q n8q c8q, .slice A9q n9q c9q] ∧ MeV w5.drew w5.drew.heap.size ⟨x0, x1, x2, x3, x4, x5, x6, x7, x8, x9⟩ ⟨A1q, n1q, c1q, h1q, A2q, n2q, c2q, h2q, A3q, n3q, c3q, h3q, A4q, n4q, c4q, h4q, A5q, n5q, c5q, h5q, A7q, n7q, c7q, h7q, A8q, n8q, c8q, h8q, A9q, n9q, c9q, h9q⟩ ∧ Below W.heap.size W w5.drew from ⟨HA5.out.below (Below.refl _ _).drew HA5.out.lt, HX5.out.below (Below.refl _ _).drew HX5.out.lt, HV5.out.go (Below.refl _ _).drew, HB5.out.drew⟩)
  go_region_held3 (fun w => w.cell? ⟨W.heap.size, 0, none⟩ = some (.int .i64 x0) ∧ w.cell? ⟨W.heap.size, 1, none⟩ = some (.slice A1 n1 c1) ∧ w.cell? ⟨W.heap.size, 2, none⟩ = some (.slice A2 n2 c2) ∧ w.cell? ⟨W.heap.size, 3, none⟩ = some (.slice A3 n3 c3) ∧ w.cell? ⟨W.heap.size, 4, none⟩ = some (.slice A4 n4 c4) ∧ w.cell? ⟨W.heap.size, 5, none⟩ = some (.slice A5 n5 c5) ∧ w.cell? ⟨W.heap.size, 6, none⟩ = some (.int .i64 x6) ∧ w.cell? ⟨W.heap.size, 7, none⟩ = some (.slice A7 n7 c7) ∧ w.cell? ⟨W.heap.size, 8, none⟩ = some (.slice A8 n8 c8) ∧ w.cell? ⟨W.heap.size, 9, none⟩ = some (.slice A9 n9 c9) ∧ w.cell? ⟨w4.heap.size, 0, none⟩ = some (.int .i64 x0) ∧ w.cell? ⟨w4.heap.size, 1, none⟩ = some (.slice A1q n1q c1q) ∧ w.cell? ⟨w4.heap.size, 2, none⟩ = some (.slice A2q n2q c2q) ∧ w.cell? ⟨w4.heap.size, 3, none⟩ = some (.slice A3q n3q c3q) ∧ w.cell? ⟨w4.heap.size, 4, none⟩ = some (.slice A4q n4q c4q) ∧ w.cell? ⟨w4.heap.size, 5, none⟩ = some (.slice A5q n5q c5q) ∧ w.cell? ⟨w4.heap.size, 6, none⟩ = some (.int .i64 x6) ∧ w.cell? ⟨w4.heap.size, 7, none⟩ = some (.slice A7q n7q c7q) ∧ w.cell? ⟨w4.heap.size, 8, none⟩ = some (.slice A8q n8q c8q) ∧ w.cell? ⟨w4.heap.size, 9, none⟩ = some (.slice A9q n9q c9q))
    (first | exact ⟨H0.out.1.cell 0, H0.out.1.cell 1, H0.out.1.cell 2, H0.out.1.cell 3, H0.out.1.cell 4, H0.out.1.cell 5, H0.out.1.cell 6, H0.out.1.cell 7, H0.out.1.cell 8, H0.out.1.cell 9, H0.out.2.1.cell 0, H0.out.2.1.cell 1, H0.out.2.1.cell 2, H0.out.2.1.cell 3, H0.out.2.1.cell 4, H0.out.2.1.cell 5, H0.out.2.1.cell 6, H0.out.2.1.cell 7, H0.out.2.1.cell 8, H0.out.2.1.cell 9⟩ | exact ⟨HA7.out.cell 0, HA7.out.cell 1, HA7.out.cell 2, HA7.out.cell 3, HA7.out.cell 4, HA7.out.cell 5, HA7.out.cell 6, HA7.out.cell 7, HA7.out.cell 8, HA7.out.cell 9, HX7.out.cell 0, HX7.out.cell 1, HX7.out.cell 2, HX7.out.cell 3, HX7.out.cell 4, HX7.out.cell 5, HX7.out.cell 6, HX7.out.cell 7, HX7.out.cell 8, HX7.out.cell 9⟩ | exact ⟨HA8.out.cell 0, HA8.out.cell 1, HA8.out.cell 2, HA8.out.cell 3, HA8.out.cell 4, HA8.out.cell 5, HA8.out.cell 6, HA8.out.cell 7, HA8.out.cell 8, HA8.out.cell 9, HX8.out.cell 0, HX8.out.cell 1, HX8.out.cell 2, HX8.out.cell 3, HX8.out.cell 4, HX8.out.cell 5, HX8.out.cell 6, HX8.out.cell 7, HX8.out.cell 8, HX8.out.cell 9⟩ | go_keep)
    ((first
      | (go_at_call 16; have HQ := TA.out _ H0.out.2.2.2; refine Calls.mono HQ ?_; clear HQ; rintro e w7 ⟨⟨A1u, n1u, c1u, h1u, A2u, n2u, c2u, h2u, A3u, n3u, c3u, h3u, A4u, n4u, c4u, h4u, A5u, n5u, c5u, h5u, A7u, n7u, c7u, h7u, A8u, n8u, c8u, h8u, A9u, n9u, c9u, h9u⟩, he, h⟩; obtain rfl : e = .returned (.agg #[.int .i64 x0, .slice A1u n1u c1u, .slice A2u n2u c2u, .slice A3u n3u c3u, .slice A4u n4u c4u, .slice A5u n5u c5u, .int .i64 x6, .slice A7u n7u c7u, .slice A8u n8u c8u, .slice A9u n9u c9u]) := he; obtain ⟨hv, hb, hq⟩ := h.out; clear hq; have HVU := Lib.hid hv; have HA7 := Lib.hid (H0.out.1.below hb H0.out.1.lt); have HX7 := Lib.hid (H0.out.2.1.below hb H0.out.2.1.lt); have HV7 := Lib.hid (H0.out.2.2.1.go hb); have HB7 := Lib.hid (H0.out.2.2.2.trans (hb.mono H0.out.2.2.2.size)); clear h hv hb)
      | (go_at_call 18; have HQ := eqMemory_same ⟨x0, x1, x2, x3, x4, x5, x6, x7, x8, x9⟩ ⟨A1q, n1q, c1q, h1q, A2q, n2q, c2q, h2q, A3q, n3q, c3q, h3q, A4q, n4q, c4q, h4q, A5q, n5q, c5q, h5q, A7q, n7q, c7q, h7q, A8q, n8q, c8q, h8q, A9q, n9q, c9q, h9q⟩ ⟨A1u, n1u, c1u, h1u, A2u, n2u, c2u, h2u, A3u, n3u, c3u, h3u, A4u, n4u, c4u, h4u, A5u, n5u, c5u, h5u, A7u, n7u, c7u, h7u, A8u, n8u, c8u, h8u, A9u, n9u, c9u, h9u⟩ _ HV7.out HVU.out; refine Calls.mono HQ ?_; clear HQ; rintro e w8 ⟨rfl, hb⟩; have HA8 := Lib.hid (HA7.out.below hb HA7.out.lt); have HX8 := Lib.hid (HX7.out.below hb HX7.out.lt); have HB8 := Lib.hid (HB7.out.trans (hb.mono HB7.out.size)); clear hb)))
  go_split_ands
  go_wp2_with fail
  go_ret
  exact ⟨rfl, HB8.out⟩
end Go.Proofs.YtfcpdjfckeoniaaGreatDoor

namespace Go.Proofs.YtfcpdjfckeoniaaGreatDoor.fnExactValidMemory
open Go.ChangeShapes Go.WideShapes Go.ChangeAt Go.RowKit
open Go.ChangeMaps (open_string shut_string)

theorem own : ownKnob Tryz.prog.godebug = none := by kernel_rfl
theorem laidOut : laidOutB Tryz.prog = true := by kernel_rfl

set_option maxRecDepth 100000 in
theorem contract (H : Type) (enc : TypeId × Value → H) (W : World) (base : Nat) (args : Array Value) (ds gs : List (DataW H)) (before : List MemPlace)
    (hval : ∀ (j : Nat) t v, Tryz.f4.params[j]? = some t → args[j]? = some v → Value.okWide Tryz.prog W .any base t v)
    (hW : DataW.Whole enc Tryz.prog Tryz.f4.params.toList Rows.fnExactValidMemorySpec.vars false W args.toList ds gs before) (hL : laidMetH Tryz.prog Rows.fnExactValidMemoryRow.laid W) :
    Calls Tryz.prog 4 args W fun e W' => ∃ v, e = .returned v ∧ Rows.fnExactValidMemorySpec.post enc Tryz.prog Tryz.f4 false true false false W args v W' := by
  have hW' := hW
  obtain ⟨p, q, hA0, hV, rfl, hfz, hnd⟩ := hW
  have hA : DataW.TrodAll enc Tryz.prog W 0 (fun _ => true) true Tryz.f4.params.toList args.toList ds p := hA0
  rw [Tryz.params4] at hA hval
  obtain ⟨v0, vs0, d0, ds0, p0, q0, hargs0, rfl, rfl, h0, r0⟩ := trodAll_cons hA
  obtain ⟨rfl, rfl, rfl⟩ := trodAll_nil r0
  obtain rfl : args = #[v0] := by cases args; simp_all
  have k0 := h0
  have lt0 : ∀ x ∈ p0, x.block < W.heap.size := by obtain ⟨m, hm⟩ := k0; exact DataW.trod_lt m _ _ _ hm
  obtain ⟨x0, l0, rfl, ho0⟩ := open_Me (hval 0 50 v0 rfl rfl) h0
  clear hA0
  have kV := hV
  obtain ⟨gv0, tv0, cs0, m0, yv0, pv0, rfl, _, _, _, _, _⟩ := trodVars_one (show DataW.TrodVars enc Tryz.prog W (fun _ => true) ["loop.example/g00873/impl.byteClasses"] gs q from hV)
  refine (walk_FnExactValidMemory x0 l0 W ho0 hL).mono fun e W' ⟨he, bel⟩ => ?_
  subst he
  exact ⟨_, rfl, _, _, _, [], _, _, hW', trodAll_mk1 (shut_bool Tryz.underlying4 _), (trodAll_cons_mk (Below.trod laidOut (by kernel_rfl) (of_decide_eq_true (by kernel_rfl)) k0 bel lt0) trodAll_mk0), (Below.trodVars laidOut bel (by kernel_rfl) kV), bel.frame _, fun h => by cases h⟩

theorem laid_met (os : Os) : laidMetH Tryz.prog Rows.fnExactValidMemoryRow.laid ((World.doorLaid Tryz.prog 4000 os).forCall (fun _ _ => 0) ⟨#[], #[.agg #[.int .i64 0, .slice none 0 0, .slice none 0 0, .slice none 0 0, .slice none 0 0, .slice none 0 0, .int .i64 0, .slice none 0 0, .slice none 0 0, .slice none 0 0]], []⟩).memory :=
  laidMetH_of_parts3 (fuel := 8) (laidMet_of_run' 8 (by kernel_rfl) (by kernel_rfl)) (by kernel_rfl) (by kernel_rfl)
theorem reads (os : Os) {H : Type} (enc : TypeId × Value → H) : ∃ places, DataW.whole enc Tryz.prog ((World.doorLaid Tryz.prog 4000 os).forCall (fun _ _ => 0) ⟨#[], #[.agg #[.int .i64 0, .slice none 0 0, .slice none 0 0, .slice none 0 0, .slice none 0 0, .slice none 0 0, .int .i64 0, .slice none 0 0, .slice none 0 0, .slice none 0 0]], []⟩).memory Tryz.f4.params.toList Rows.fnExactValidMemorySpec.vars false #[Value.agg #[.int .i64 0, .slice none 0 0, .slice none 0 0, .slice none 0 0, .slice none 0 0, .slice none 0 0, .int .i64 0, .slice none 0 0, .slice none 0 0, .slice none 0 0]].toList 8 = some ([.agg [.agg [.lit (.int .i64 0), .nil], .agg [.nil, .nil, .nil], .agg [.nil, .lit (.int .i64 0), .nil, .nil, .nil]]], [Rows.laid_loop_example_g00873_impl_byteClasses], places) :=
  ⟨MemPlace.row ⟨1, 0, none⟩ 128, by kernel_rfl⟩

set_option maxRecDepth 100000 in
theorem lifted (os : Os) (started : os.Started) (H : Type) (enc : TypeId × Value → H) (F : Stop.Interp) :
    ReturnsInHanded {} Tryz.checked os 4 .any ((OpenSpec.ofChange Rows.fnExactValidMemorySpec).preRow enc Tryz.prog Tryz.f4 Rows.fnExactValidMemoryRow.domain false Rows.fnExactValidMemoryRow.laid) (((OpenSpec.ofChange Rows.fnExactValidMemorySpec).at F).post enc Tryz.prog Tryz.f4 false true false false) := by
  obtain ⟨places, hx⟩ := reads os enc
  refine returnsInHanded_of_row (C := Tryz.checked) (s := OpenSpec.ofChange Rows.fnExactValidMemorySpec) own started (by kernel_rfl) Tryz.func4
    (witness_row_at (enc := enc) (C := Tryz.checked) false (World.doorLaid Tryz.prog 4000 os) #[.agg #[.int .i64 0, .slice none 0 0, .slice none 0 0, .slice none 0 0, .slice none 0 0, .slice none 0 0, .int .i64 0, .slice none 0 0, .slice none 0 0, .slice none 0 0]] rfl (by kernel_rfl) (by kernel_rfl) (by kernel_rfl)
      (OpenSpec.preRow_of_cond 8 hx (by kernel_rfl) (fun k hk => by cases hk) (by kernel_rfl) (laid_met os))) ?_
  intro W base args ds gs before hval hW _ hb hz hL hsh _
  exact contract H enc W base args ds gs before hval hW hL

theorem over : Rows.FnExactValidMemorySaid :=
  OpenClaim.holds_of_cond 4 Tryz.f4 rfl rfl rfl rfl rfl rfl rfl ⟨rfl, rfl, rfl, rfl, rfl⟩ rfl rfl rfl rfl rfl (by kernel_rfl) Tryz.func4 (by kernel_rfl)
    (of_decide_eq_true (by kernel_rfl)) (by unfold Func.isWrapper; first | (rw [if_pos (by decide +kernel)]; kernel_rfl) | (rw [if_neg (by decide +kernel)]; exact ⟨rfl, rfl⟩))
    (fun os started H enc _ F => by rw [OpenClaim.pre_eq_preRow]; exact lifted os started H enc F)

theorem plain (f : FuncId) (fn : Func) (hf : Tryz.pinned.checked.prog.funcNamed "loop.example/g00873/laws.FnExactValidMemory" = some f) (hfn : Tryz.pinned.checked.prog.funcs[f]? = some fn) :
    true = Tryz.pinned.checked.prog.looks [] ∧ ∀ (j : Nat) t, fn.params[j]? = some t → Tryz.pinned.checked.prog.wantsStandIn t = false := by
  obtain rfl : f = 4 := Option.some.inj ((show Tryz.prog.funcNamed "loop.example/g00873/laws.FnExactValidMemory" = some 4 by kernel_rfl).symm.trans hf) |>.symm
  obtain rfl : fn = Tryz.f4 := (Option.some.inj (Tryz.func4.symm.trans hfn)).symm
  refine ⟨by kernel_rfl, fun j t ht => ?_⟩
  rw [Tryz.params4] at ht
  have ht' : t = 50 := by simpa using Array.mem_of_getElem? ht
  rcases ht' with rfl
  · exact (show Tryz.prog.wantsStandIn 50 = false by kernel_rfl)

theorem proved : Rows.FnExactValidMemoryCardSaid :=
  Claim7.holds_tied_plain_at .later [] _ _ _ _ over (fun _ h => by cases h) (by kernel_rfl) (fun _ h => by cases h) fnExactValidMemory_row_tie rfl ⟨rfl, rfl⟩ (by kernel_rfl) rfl plain (by kernel_rfl)
#print axioms proved
end Go.Proofs.YtfcpdjfckeoniaaGreatDoor.fnExactValidMemory
