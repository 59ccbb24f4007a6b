/- toScope, toScopeS of the laws. No condition. laws.eqScope, laws.eqScopeS where both are the same. No condition. toConsole, toConsoleS of the laws. No condition. laws.eqConsole, laws.eqConsoleS where both are the same. No condition. laws.eqMemory where both are the same. No condition. Plain: when two values are the same. No condition. Plain: a proposition as a bool; two values are one. No condition. The classes of bytes as a plain function; facts on bytes. No condition. Contracts: impl.classOf, spec.l02Operator. Condition of the first: the table holds what the program's text lays. Names as plain functions. No condition. Contracts: letters, digits, the end of a name, IsName of the model and of the program. Condition of the last: the table holds what the program's text lays. Contract: l00In of the model. No condition. Contracts: l06Plain, ValidValue of the model. No condition but that a string fits in memory. Plain: what a valid object and a valid heap are. No condition. Contract: textValue of the program; the cells of a value. No condition. Contract: SameValue of the model. No condition. Contracts of the model: l07ValidValues, l07Distinct, l07FieldNames. No condition. Contracts of the model: l07Distinct, l07FieldNames. No condition. Contract of the model: l07FieldNames. No condition. Contracts of the model: l07Find, l07IsRef, l07ObjectKind, l07Fits, l07FitAll. No condition but that the objects rise. Contracts of the model: l07FitAll, l07Refs. Condition: the objects rise. -/
import Derived.Test.YtfcpdjfckeoniaaGreatDoorValidMemoryM2
import Derived.Test.YtfcpdjfckeoniaaGreatDoorValidMemoryM3
import Derived.Test.YtfcpdjfckeoniaaGreatDoorValidMemoryM1
import Derived.Test.YtfcpdjfckeoniaaGreatDoorChecked
import Derived.WalkKit
import Derived.WalkLawsBesides
import Derived.Lib.LaidTab
import Derived.Below
import Derived.Laws.StructEq
import Derived.Deep.QuietTactic
import Derived.BigQuiet
import Derived.Lib.QuietBelow
namespace Go.Proofs.YtfcpdjfckeoniaaGreatDoor
open Go Go.RowKit

/-- What toScope answers. -/
def ToSc (x : Sc) (W : World) (e : Ending) (w' : World) : Prop := ∃ l, e = .returned (x.ag l) ∧ Hid (ScV w' w'.heap.size x l ∧ Below W.heap.size W w' ∧ l.n0 = x.vars_.length ∧ l.n1 = x.functions_.length ∧ l.n2 = x.types_.length ∧ ∃ b0 b1 b2, l.A0 = some ⟨b0, 0, none⟩ ∧ l.A1 = some ⟨b1, 0, none⟩ ∧ l.A2 = some ⟨b2, 0, none⟩ ∧ W.heap.size ≤ b0 ∧ W.heap.size ≤ b1 ∧ W.heap.size ≤ b2)

set_option maxHeartbeats 2000000 in
set_option maxRecDepth 100000 in
theorem toScope_any (x : Sc) (l : ScLay) (W : World) (ho : ScV W W.heap.size x l) (hsm : ScSmall x) :
    Calls Tryz.prog 43 #[x.ag l] W (ToSc x W) := by
  obtain ⟨x0, x1, x2⟩ := x
  obtain ⟨A0, n0, c0, h0, A1, n1, c1, h1, A2, n2, c2, h2⟩ := l
  obtain ⟨k0, k1, k2⟩ := ho
  obtain ⟨s0, s1, s2⟩ := hsm
  try unfold ScV at k0 k1 k2
  try unfold ScSmall at s0 s1 s2
  dsimp only at k0 k1 k2 s0 s1 s2
  rw [k0.1] at s0
  have HK0 := Lib.hid k0
  have HS0 := Lib.hid s0
  rw [k1.1] at s1
  have HK1 := Lib.hid k1
  have HS1 := Lib.hid s1
  rw [k2.1] at s2
  have HK2 := Lib.hid k2
  have HS2 := Lib.hid s2
  clear k0 k1 k2 s0 s1 s2
  have HC := Lib.hid (fun (X Y : World) (T T' : TypeId) (c c' : Array Value) (eY : Y = W.alloc (.cells #[.slice A0 n0 c0, .slice A1 n1 c1, .slice A2 n2 c2] T)) (eX : X = (Y.alloc (.cells c T')).alloc (.cells c' T')) =>
    (show RW T X W.heap.size #[.slice A0 n0 c0, .slice A1 n1 c1, .slice A2 n2 c2] ∧ RW T' X (W.heap.size + 1 + 1) c' ∧ RW T' X (W.heap.size + 1) c ∧ Below W.heap.size W X ∧ X.heap.size = W.heap.size + 3 from by
      subst eX; subst eY
      refine ⟨((RW.new W _ T).alloc _).alloc _, ?_, ?_, ((below_alloc _ _).alloc (by simp) _).alloc (by simp; omega) _, by simp⟩
      · have := RW.new ((W.alloc (.cells #[.slice A0 n0 c0, .slice A1 n1 c1, .slice A2 n2 c2] T)).alloc (.cells c T')) c' T'
        simpa using this
      · have := (RW.new (W.alloc (.cells #[.slice A0 n0 c0, .slice A1 n1 c1, .slice A2 n2 c2] T)) c T').alloc (.cells c' T')
        simpa using this))
  show Calls Tryz.prog 43 #[.agg #[.slice A0 n0 c0, .slice A1 n1 c1, .slice A2 n2 c2]] W _
  go_enter Tryz.func43, Tryz.ntmps43
  go_wp2_with (go_at_call 80; obtain ⟨g0, g1, g4, g2, g3⟩ := HC.out _ _ _ _ _ _ rfl rfl; have HQ := toBindingS_any A0 n0 c0 x0 _ (HK0.out.go g2) HS0.out; refine Calls.mono HQ ?_; clear HQ; rintro e w1 ⟨rfl, h⟩; obtain ⟨hv, hb⟩ := h.out; have hd := hv.det; rw [g3] at hv hd; have HA1 := Lib.hid (g0.below hb (by omega)); have HR1 := Lib.hid (g1.below hb (by omega)); have HO1 := Lib.hid (g4.below hb (by omega)); have HB1 := Lib.hid (g2.trans (hb.mono g2.size)); have HV1_0 : Hid (Det (W.heap.size + 1 + 1 + 1) w1.heap.size w1 fun w => BdI w w1.heap.size (some ⟨W.heap.size + 1 + 1 + 1, 0, none⟩) n0 x0) := hd; have HG1 : Hid (W.heap.size + 3 ≤ w1.heap.size) := (by have := hb.size; show _ ≤ _; omega); clear g0 g1 g2 g3 g4 h hv hd hb HK0; have q11 : w1.cell? ⟨W.heap.size, 1, none⟩ = some (.slice A1 n1 c1) := HA1.out.cell 1; have p10 : w1.cell? ⟨W.heap.size + 1 + 1, 0, none⟩ = some (.slice none 0 0) := HR1.out.cell 0; have f10 := HR1.out.frozen 0)
  go_wp2_with (go_at_call 81; have hbs : Below (W.heap.size + 2) w1 (w1.setCell ⟨W.heap.size + 1 + 1, 0, none⟩ (.slice (some ⟨W.heap.size + 1 + 1 + 1, 0, none⟩) n0 n0)) := below_set w1 (p := ⟨W.heap.size + 1 + 1, 0, none⟩) (B := W.heap.size + 2) (Nat.le_refl _) (.slice (some ⟨W.heap.size + 1 + 1 + 1, 0, none⟩) n0 n0); have hzz : (w1.setCell ⟨W.heap.size + 1 + 1, 0, none⟩ (.slice (some ⟨W.heap.size + 1 + 1 + 1, 0, none⟩) n0 n0)).heap.size = w1.heap.size := (by simp [World.setCell]); have HQ := toFunctionS_any A1 n1 c1 x1 (w1.setCell ⟨W.heap.size + 1 + 1, 0, none⟩ (.slice (some ⟨W.heap.size + 1 + 1 + 1, 0, none⟩) n0 n0)) (HK1.out.go (HB1.out.trans (hbs.mono (by omega)))) HS1.out.1 HS1.out.2; refine Calls.mono HQ ?_; clear HQ; rintro e w2 ⟨rfl, h⟩; obtain ⟨hv, hb, hd⟩ := h.out; rw [hzz] at hb hv hd; have hsz := hb.size; rw [hzz] at hsz; have hs1 := HG1.out; have HA2 := Lib.hid ((HA1.out.below hbs (by omega)).below hb (by omega)); have HR2 := Lib.hid (((HR1.out).set_ 0 (.slice (some ⟨W.heap.size + 1 + 1 + 1, 0, none⟩) n0 n0)).below hb (by omega)); have HO2 := Lib.hid ((HO1.out.below hbs (by omega)).below hb (by omega)); have HB2 := Lib.hid ((HB1.out.trans (hbs.mono (by omega))).trans (hb.mono (by omega))); have HG2 : Hid (W.heap.size + 3 ≤ w2.heap.size) := (Nat.le_trans hs1 hsz); have HV2_1 : Hid (Det (w1.heap.size) w2.heap.size w2 fun w => FnI w w2.heap.size (some ⟨w1.heap.size, 0, none⟩) n1 x1) := hd; have HZ2 : Hid (w1.heap.size ≠ W.heap.size + 1 + 1) := (by show _ ≠ _; omega); have HV2_0 := Lib.hid (((((HV1_0.out).set (p := ⟨W.heap.size + 1 + 1, 0, none⟩) (by have := HG1.out; dsimp only; omega) (.slice (some ⟨W.heap.size + 1 + 1 + 1, 0, none⟩) n0 n0)).below hb (by omega)).wide (Nat.le_refl _) hsz).imp fun w h => h.more hsz); clear hbs hzz hb hv hd h hsz hs1 HK1; have q22 : w2.cell? ⟨W.heap.size, 2, none⟩ = some (.slice A2 n2 c2) := HA2.out.cell 2; have p21 : w2.cell? ⟨W.heap.size + 1 + 1, 1, none⟩ = some (.slice none 0 0) := HR2.out.cell 1; have f21 := HR2.out.frozen 1)
  go_wp2_with (go_at_call 82; have hbs : Below (W.heap.size + 2) w2 (w2.setCell ⟨W.heap.size + 1 + 1, 1, none⟩ (.slice (some ⟨w1.heap.size, 0, none⟩) n1 n1)) := below_set w2 (p := ⟨W.heap.size + 1 + 1, 1, none⟩) (B := W.heap.size + 2) (Nat.le_refl _) (.slice (some ⟨w1.heap.size, 0, none⟩) n1 n1); have hzz : (w2.setCell ⟨W.heap.size + 1 + 1, 1, none⟩ (.slice (some ⟨w1.heap.size, 0, none⟩) n1 n1)).heap.size = w2.heap.size := (by simp [World.setCell]); have HQ := toRecordTypeS_any A2 n2 c2 x2 (w2.setCell ⟨W.heap.size + 1 + 1, 1, none⟩ (.slice (some ⟨w1.heap.size, 0, none⟩) n1 n1)) (HK2.out.go (HB2.out.trans (hbs.mono (by omega)))) HS2.out.1 HS2.out.2; refine Calls.mono HQ ?_; clear HQ; rintro e w3 ⟨rfl, h⟩; obtain ⟨hv, hb, hd⟩ := h.out; rw [hzz] at hb hv hd; have hsz := hb.size; rw [hzz] at hsz; have hs1 := HG2.out; have HA3 := Lib.hid ((HA2.out.below hbs (by omega)).below hb (by omega)); have HR3 := Lib.hid (((HR2.out).set_ 1 (.slice (some ⟨w1.heap.size, 0, none⟩) n1 n1)).below hb (by omega)); have HO3 := Lib.hid ((HO2.out.below hbs (by omega)).below hb (by omega)); have HB3 := Lib.hid ((HB2.out.trans (hbs.mono (by omega))).trans (hb.mono (by omega))); have HG3 : Hid (W.heap.size + 3 ≤ w3.heap.size) := (Nat.le_trans hs1 hsz); have HV3_2 : Hid (Det (w2.heap.size) w3.heap.size w3 fun w => RtI w w3.heap.size (some ⟨w2.heap.size, 0, none⟩) n2 x2) := hd; have HZ3 : Hid (w2.heap.size ≠ W.heap.size + 1 + 1) := (by show _ ≠ _; omega); have HV3_0 := Lib.hid (((((HV2_0.out).set (p := ⟨W.heap.size + 1 + 1, 1, none⟩) (by have := HG2.out; dsimp only; omega) (.slice (some ⟨w1.heap.size, 0, none⟩) n1 n1)).below hb (by omega)).wide (Nat.le_refl _) hsz).imp fun w h => h.more hsz); have HV3_1 := Lib.hid (((((HV2_1.out).set (p := ⟨W.heap.size + 1 + 1, 1, none⟩) (by have := HG1.out; dsimp only; omega) (.slice (some ⟨w1.heap.size, 0, none⟩) n1 n1)).below hb (by omega)).wide (Nat.le_refl _) hsz).imp fun w h => h.more hsz); clear hbs hzz hb hv hd h hsz hs1 HK2; have p32 : w3.cell? ⟨W.heap.size + 1 + 1, 2, none⟩ = some (.slice none 0 0) := HR3.out.cell 2; have f32 := HR3.out.frozen 2; have p30 : w3.cell? ⟨W.heap.size + 1 + 1, 0, none⟩ = some (.slice (some ⟨W.heap.size + 1 + 1 + 1, 0, none⟩) n0 n0) := HR3.out.cell 0; have p31 : w3.cell? ⟨W.heap.size + 1 + 1, 1, none⟩ = some (.slice (some ⟨w1.heap.size, 0, none⟩) n1 n1) := HR3.out.cell 1; have r0 : w3.cell? ⟨W.heap.size + 1, 0, none⟩ = some (.slice none 0 0) := HO3.out.cell 0; have z0 := HO3.out.frozen 0; have r1 : w3.cell? ⟨W.heap.size + 1, 1, none⟩ = some (.slice none 0 0) := HO3.out.cell 1; have z1 := HO3.out.frozen 1; have r2 : w3.cell? ⟨W.heap.size + 1, 2, none⟩ = some (.slice none 0 0) := HO3.out.cell 2; have z2 := HO3.out.frozen 2)
  have hs1 := HG3.out
  have hb1 : Below (W.heap.size + 1) w3 ((((w3.setCell ⟨W.heap.size + 1 + 1, 2, none⟩ (.slice (some ⟨w2.heap.size, 0, none⟩) n2 n2)).setCell ⟨W.heap.size + 1, 0, none⟩ (.slice (some ⟨W.heap.size + 1 + 1 + 1, 0, none⟩) n0 n0)).setCell ⟨W.heap.size + 1, 1, none⟩ (.slice (some ⟨w1.heap.size, 0, none⟩) n1 n1)).setCell ⟨W.heap.size + 1, 2, none⟩ (.slice (some ⟨w2.heap.size, 0, none⟩) n2 n2)) := ((((below_set w3 (p := ⟨W.heap.size + 1 + 1, 2, none⟩) (by simp) _).setCell (by simp) _).setCell (by simp) _).setCell (by simp) _)
  have hzz : ((((w3.setCell ⟨W.heap.size + 1 + 1, 2, none⟩ (.slice (some ⟨w2.heap.size, 0, none⟩) n2 n2)).setCell ⟨W.heap.size + 1, 0, none⟩ (.slice (some ⟨W.heap.size + 1 + 1 + 1, 0, none⟩) n0 n0)).setCell ⟨W.heap.size + 1, 1, none⟩ (.slice (some ⟨w1.heap.size, 0, none⟩) n1 n1)).setCell ⟨W.heap.size + 1, 2, none⟩ (.slice (some ⟨w2.heap.size, 0, none⟩) n2 n2)).heap.size = w3.heap.size := by simp [World.setCell]
  refine bodyPost_ret (v := .agg #[.slice (some ⟨W.heap.size + 1 + 1 + 1, 0, none⟩) n0 n0, .slice (some ⟨w1.heap.size, 0, none⟩) n1 n1, .slice (some ⟨w2.heap.size, 0, none⟩) n2 n2]) (results_cell_row Tryz.results43 _ _ (W.heap.size + 1) 60 _ (0, 0) _ rfl ((((((((HO3.out).other (p := ⟨W.heap.size + 1 + 1, 2, none⟩) (by simp) (.slice (some ⟨w2.heap.size, 0, none⟩) n2 n2))).set_ 0 (.slice (some ⟨W.heap.size + 1 + 1 + 1, 0, none⟩) n0 n0))).set_ 1 (.slice (some ⟨w1.heap.size, 0, none⟩) n1 n1))).set_ 2 (.slice (some ⟨w2.heap.size, 0, none⟩) n2 n2)) Tryz.underlying60 rfl (by kernel_rfl)) rfl ⟨⟨some ⟨W.heap.size + 1 + 1 + 1, 0, none⟩, n0, n0, Nat.le_refl _, some ⟨w1.heap.size, 0, none⟩, n1, n1, Nat.le_refl _, some ⟨w2.heap.size, 0, none⟩, n2, n2, Nat.le_refl _⟩, rfl, Lib.hid ⟨?_, HB3.out.trans (hb1.mono (by omega)), HV3_0.out.self.1.symm, HV3_1.out.self.1.symm, HV3_2.out.self.1.symm, _, _, _, rfl, rfl, rfl, by omega, by have := HG1.out; have := HG2.out; have := HG3.out; omega, by have := HG1.out; have := HG2.out; have := HG3.out; omega⟩⟩
  show ScV ((((w3.setCell ⟨W.heap.size + 1 + 1, 2, none⟩ (.slice (some ⟨w2.heap.size, 0, none⟩) n2 n2)).setCell ⟨W.heap.size + 1, 0, none⟩ (.slice (some ⟨W.heap.size + 1 + 1 + 1, 0, none⟩) n0 n0)).setCell ⟨W.heap.size + 1, 1, none⟩ (.slice (some ⟨w1.heap.size, 0, none⟩) n1 n1)).setCell ⟨W.heap.size + 1, 2, none⟩ (.slice (some ⟨w2.heap.size, 0, none⟩) n2 n2)) ((((w3.setCell ⟨W.heap.size + 1 + 1, 2, none⟩ (.slice (some ⟨w2.heap.size, 0, none⟩) n2 n2)).setCell ⟨W.heap.size + 1, 0, none⟩ (.slice (some ⟨W.heap.size + 1 + 1 + 1, 0, none⟩) n0 n0)).setCell ⟨W.heap.size + 1, 1, none⟩ (.slice (some ⟨w1.heap.size, 0, none⟩) n1 n1)).setCell ⟨W.heap.size + 1, 2, none⟩ (.slice (some ⟨w2.heap.size, 0, none⟩) n2 n2)).heap.size ⟨x0, x1, x2⟩ ⟨some ⟨W.heap.size + 1 + 1 + 1, 0, none⟩, n0, n0, Nat.le_refl _, some ⟨w1.heap.size, 0, none⟩, n1, n1, Nat.le_refl _, some ⟨w2.heap.size, 0, none⟩, n2, n2, Nat.le_refl _⟩
  rw [hzz]
  exact ⟨((((((((HV3_0.out).set (p := ⟨W.heap.size + 1 + 1, 2, none⟩) (by first | (dsimp only; omega) | omega) _)).set (p := ⟨W.heap.size + 1, 0, none⟩) (by first | (dsimp only; omega) | omega) _)).set (p := ⟨W.heap.size + 1, 1, none⟩) (by first | (dsimp only; omega) | omega) _)).set (p := ⟨W.heap.size + 1, 2, none⟩) (by first | (dsimp only; omega) | omega) _).self, ((((((((HV3_1.out).set (p := ⟨W.heap.size + 1 + 1, 2, none⟩) (by have := HG1.out; first | (dsimp only; omega) | omega) _)).set (p := ⟨W.heap.size + 1, 0, none⟩) (by have := HG1.out; first | (dsimp only; omega) | omega) _)).set (p := ⟨W.heap.size + 1, 1, none⟩) (by have := HG1.out; first | (dsimp only; omega) | omega) _)).set (p := ⟨W.heap.size + 1, 2, none⟩) (by have := HG1.out; first | (dsimp only; omega) | omega) _).self, ((((((((HV3_2.out).set (p := ⟨W.heap.size + 1 + 1, 2, none⟩) (by have := HG2.out; first | (dsimp only; omega) | omega) _)).set (p := ⟨W.heap.size + 1, 0, none⟩) (by have := HG2.out; first | (dsimp only; omega) | omega) _)).set (p := ⟨W.heap.size + 1, 1, none⟩) (by have := HG2.out; first | (dsimp only; omega) | omega) _)).set (p := ⟨W.heap.size + 1, 2, none⟩) (by have := HG2.out; first | (dsimp only; omega) | omega) _).self⟩

end Go.Proofs.YtfcpdjfckeoniaaGreatDoor

namespace Go.Proofs.YtfcpdjfckeoniaaGreatDoor
open Go Go.RowKit

set_option maxHeartbeats 1000000 in
set_option maxRecDepth 100000 in
theorem eqScope_same (x : Sc) (l l' : ScLay) (W : World) (ho : ScV W W.heap.size x l) (ho' : ScV W W.heap.size x l') :
    Calls Tryz.prog 48 #[x.ag l, x.ag l'] W fun e w' => e = .returned (.bool true) ∧ Below W.heap.size W w' := by
  obtain ⟨x0, x1, x2⟩ := x
  obtain ⟨A0, n0, c0, h0, A1, n1, c1, h1, A2, n2, c2, h2⟩ := l
  obtain ⟨A0', n0', c0', h0', A1', n1', c1', h1', A2', n2', c2', h2'⟩ := l'
  obtain ⟨k0, k1, k2⟩ := ho
  obtain ⟨j0, j1, j2⟩ := ho'
  try unfold ScV at k0 j0 k1 j1 k2 j2
  dsimp only at k0 j0 k1 j1 k2 j2
  obtain rfl : n0 = n0' := k0.1.symm.trans j0.1
  have HK0 := Lib.hid k0
  have HJ0 := Lib.hid j0
  obtain rfl : n1 = n1' := k1.1.symm.trans j1.1
  have HK1 := Lib.hid k1
  have HJ1 := Lib.hid j1
  obtain rfl : n2 = n2' := k2.1.symm.trans j2.1
  have HK2 := Lib.hid k2
  have HJ2 := Lib.hid j2
  clear k0 j0 k1 j1 k2 j2
  have HC := Lib.hid (two_new W 60 #[.slice A0 n0 c0, .slice A1 n1 c1, .slice A2 n2 c2] #[.slice A0' n0 c0', .slice A1' n1 c1', .slice A2' n2 c2'])
  show Calls Tryz.prog 48 #[.agg #[.slice A0 n0 c0, .slice A1 n1 c1, .slice A2 n2 c2], .agg #[.slice A0' n0 c0', .slice A1' n1 c1', .slice A2' n2 c2']] W _
  go_enter Tryz.func48, Tryz.ntmps48
  go_wp2_with (go_at_call 92; obtain ⟨g0, g1, g2, g3⟩ := HC.out _ rfl; have HQ := eqBindingS_same A0 A0' n0 c0 c0' x0 _ (HK0.out.go g2) (HJ0.out.go g2); refine Calls.mono HQ ?_; clear HQ; rintro e w1 ⟨rfl, hb⟩; have HA1 := Lib.hid (g0.below hb (by omega)); have HD1 := Lib.hid (g1.below hb (by omega)); have HB1 := Lib.hid (g2.trans (hb.mono g2.size)); have HG1 : Hid (W.heap.size + 2 ≤ w1.heap.size) := (by have := hb.size; show _ ≤ _; omega); have q11 : w1.cell? ⟨W.heap.size, 1, none⟩ = some (.slice A1 n1 c1) := HA1.out.cell 1; have p11 : w1.cell? ⟨W.heap.size + 1, 1, none⟩ = some (.slice A1' n1 c1') := HD1.out.cell 1; clear g0 g1 g2 g3 hb HK0)
  go_wp2_with (go_at_call 93; have HQ := eqFunctionS_same A1 A1' n1 c1 c1' x1 _ (HK1.out.go HB1.out) (HJ1.out.go HB1.out); refine Calls.mono HQ ?_; clear HQ; rintro e w2 ⟨rfl, hb⟩; have hg := HG1.out; have HA2 := Lib.hid (HA1.out.below hb (by omega)); have HD2 := Lib.hid (HD1.out.below hb (by omega)); have HB2 := Lib.hid (HB1.out.trans (hb.mono HB1.out.size)); have HG2 : Hid (W.heap.size + 2 ≤ w2.heap.size) := (Nat.le_trans hg hb.size); have q22 : w2.cell? ⟨W.heap.size, 2, none⟩ = some (.slice A2 n2 c2) := HA2.out.cell 2; have p22 : w2.cell? ⟨W.heap.size + 1, 2, none⟩ = some (.slice A2' n2 c2') := HD2.out.cell 2; clear hg hb HK1)
  go_wp2_with (go_at_call 94; have HQ := eqRecordTypeS_same A2 A2' n2 c2 c2' x2 _ (HK2.out.go HB2.out) (HJ2.out.go HB2.out); refine Calls.mono HQ ?_; clear HQ; rintro e w3 ⟨rfl, hb⟩; have hg := HG2.out; have HA3 := Lib.hid (HA2.out.below hb (by omega)); have HD3 := Lib.hid (HD2.out.below hb (by omega)); have HB3 := Lib.hid (HB2.out.trans (hb.mono HB2.out.size)); have HG3 : Hid (W.heap.size + 2 ≤ w3.heap.size) := (Nat.le_trans hg hb.size); clear hg hb HK2)
  all_goals go_ret
  all_goals exact ⟨rfl, HB3.out⟩

/-- Two in two blocks, and their lists. -/
def TwoSc (wr : World) (b b' p p' : Nat) (x y : Sc) (l l' : ScLay) (w : World) : Prop := ScAt w b p x l ∧ ScAt w b' p' y l' ∧ ScV w w.heap.size x l ∧ ScV w w.heap.size y l' ∧ Below wr.heap.size wr w ∧ b < w.heap.size ∧ b' < w.heap.size
theorem TwoSc.grow {wr w w' : World} {b b' p p' : Nat} {x y : Sc} {l l' : ScLay} (h : TwoSc wr b b' p p' x y l l' w) (hb : Below w.heap.size w w') : TwoSc wr b b' p p' x y l l' w' :=
  ⟨h.1.below hb h.2.2.2.2.2.1, h.2.1.below hb h.2.2.2.2.2.2, (h.2.2.1.below hb).more hb.size, (h.2.2.2.1.below hb).more hb.size, h.2.2.2.2.1.trans (hb.mono h.2.2.2.2.1.size), Nat.lt_of_lt_of_le h.2.2.2.2.2.1 hb.size, Nat.lt_of_lt_of_le h.2.2.2.2.2.2 hb.size⟩
/-- .. cell by cell, as the walk of a region asks it. -/
abbrev FlatSc (wr : World) (b b' p p' : Nat) (x y : Sc) (l l' : ScLay) (w : World) : Prop := (w.cell? ⟨b, p, none⟩ = some (.slice l.A0 l.n0 l.c0) ∧ w.cell? ⟨b, p + 1, none⟩ = some (.slice l.A1 l.n1 l.c1) ∧ w.cell? ⟨b, p + 2, none⟩ = some (.slice l.A2 l.n2 l.c2)) ∧ (w.cell? ⟨b', p', none⟩ = some (.slice l'.A0 l'.n0 l'.c0) ∧ w.cell? ⟨b', p' + 1, none⟩ = some (.slice l'.A1 l'.n1 l'.c1) ∧ w.cell? ⟨b', p' + 2, none⟩ = some (.slice l'.A2 l'.n2 l'.c2)) ∧ TwoSc wr b b' p p' x y l l' w
theorem TwoSc.flat {wr w : World} {b b' p p' : Nat} {x y : Sc} {l l' : ScLay} (h : TwoSc wr b b' p p' x y l l' w) : FlatSc wr b b' p p' x y l l' w := ⟨h.1, h.2.1, h⟩
theorem TwoSc.drew {wr : World} {b b' p p' : Nat} {x y : Sc} {l l' : ScLay} (h : TwoSc wr b b' p p' x y l l' wr) : TwoSc wr b b' p p' x y l l' wr.drew := h.grow (Below.refl _ _).drew

end Go.Proofs.YtfcpdjfckeoniaaGreatDoor

namespace Go.Proofs.YtfcpdjfckeoniaaGreatDoor
open Go Go.RowKit

/-- What toConsole answers. -/
def ToCn (x : Cn) (W : World) (e : Ending) (w' : World) : Prop := ∃ l, e = .returned (x.ag l) ∧ Hid (CnV w' w'.heap.size x l ∧ Below W.heap.size W w' ∧ l.n0 = x.input_.length ∧ l.n2 = x.output_.length ∧ l.n3 = x.files_.length ∧ l.n4 = x.trace_.length ∧ ∃ b0 b2 b3 b4, l.A0 = some ⟨b0, 0, none⟩ ∧ l.A2 = some ⟨b2, 0, none⟩ ∧ l.A3 = some ⟨b3, 0, none⟩ ∧ l.A4 = some ⟨b4, 0, none⟩ ∧ W.heap.size ≤ b0 ∧ W.heap.size ≤ b2 ∧ W.heap.size ≤ b3 ∧ W.heap.size ≤ b4)

set_option maxHeartbeats 2000000 in
set_option maxRecDepth 100000 in
theorem toConsole_any (x : Cn) (l : CnLay) (W : World) (ho : CnV W W.heap.size x l) (hsm : CnSmall x) :
    Calls Tryz.prog 8 #[x.ag l] W (ToCn x W) := by
  obtain ⟨x0, x1, x2, x3, x4⟩ := x
  obtain ⟨A0, n0, c0, h0, A2, n2, c2, h2, A3, n3, c3, h3, A4, n4, c4, h4⟩ := l
  obtain ⟨k0, k2, k3, k4⟩ := ho
  obtain ⟨s0, s2, s3, s4⟩ := hsm
  try unfold CnV at k0 k2 k3 k4
  try unfold CnSmall at s0 s2 s3 s4
  dsimp only at k0 k2 k3 k4 s0 s2 s3 s4
  rw [k0.1] at s0
  have HK0 := Lib.hid k0
  have HS0 := Lib.hid s0
  rw [k2.1] at s2
  have HK2 := Lib.hid k2
  have HS2 := Lib.hid s2
  rw [k3.1] at s3
  have HK3 := Lib.hid k3
  have HS3 := Lib.hid s3
  rw [k4.1] at s4
  have HK4 := Lib.hid k4
  have HS4 := Lib.hid s4
  clear k0 k2 k3 k4 s0 s2 s3 s4
  have HC := Lib.hid (fun (X Y : World) (T T' : TypeId) (c c' : Array Value) (eY : Y = W.alloc (.cells #[.slice A0 n0 c0, .int .i64 x1, .slice A2 n2 c2, .slice A3 n3 c3, .slice A4 n4 c4] T)) (eX : X = (Y.alloc (.cells c T')).alloc (.cells c' T')) =>
    (show RW T X W.heap.size #[.slice A0 n0 c0, .int .i64 x1, .slice A2 n2 c2, .slice A3 n3 c3, .slice A4 n4 c4] ∧ RW T' X (W.heap.size + 1 + 1) c' ∧ RW T' X (W.heap.size + 1) c ∧ Below W.heap.size W X ∧ X.heap.size = W.heap.size + 3 from by
      subst eX; subst eY
      refine ⟨((RW.new W _ T).alloc _).alloc _, ?_, ?_, ((below_alloc _ _).alloc (by simp) _).alloc (by simp; omega) _, by simp⟩
      · have := RW.new ((W.alloc (.cells #[.slice A0 n0 c0, .int .i64 x1, .slice A2 n2 c2, .slice A3 n3 c3, .slice A4 n4 c4] T)).alloc (.cells c T')) c' T'
        simpa using this
      · have := (RW.new (W.alloc (.cells #[.slice A0 n0 c0, .int .i64 x1, .slice A2 n2 c2, .slice A3 n3 c3, .slice A4 n4 c4] T)) c T').alloc (.cells c' T')
        simpa using this))
  show Calls Tryz.prog 8 #[.agg #[.slice A0 n0 c0, .int .i64 x1, .slice A2 n2 c2, .slice A3 n3 c3, .slice A4 n4 c4]] W _
  go_enter Tryz.func8, Tryz.ntmps8
  go_wp2_with (go_at_call 24; obtain ⟨g0, g1, g4, g2, g3⟩ := HC.out _ _ _ _ _ _ rfl rfl; have HQ := toStringS_any A0 n0 c0 x0 _ (HK0.out.go g2) HS0.out; refine Calls.mono HQ ?_; clear HQ; rintro e w1 ⟨rfl, h⟩; obtain ⟨hv, hb⟩ := h.out; have hd := hv.det; rw [g3] at hv hd; have HA1 := Lib.hid (g0.below hb (by omega)); have HR1 := Lib.hid (g1.below hb (by omega)); have HO1 := Lib.hid (g4.below hb (by omega)); have HB1 := Lib.hid (g2.trans (hb.mono g2.size)); have HV1_0 : Hid (Det (W.heap.size + 1 + 1 + 1) w1.heap.size w1 fun w => StI w w1.heap.size (some ⟨W.heap.size + 1 + 1 + 1, 0, none⟩) n0 x0) := hd; have HG1 : Hid (W.heap.size + 3 ≤ w1.heap.size) := (by have := hb.size; show _ ≤ _; omega); clear g0 g1 g2 g3 g4 h hv hd hb HK0; have q11 : w1.cell? ⟨W.heap.size, 1, none⟩ = some (.int .i64 x1) := HA1.out.cell 1; have q12 : w1.cell? ⟨W.heap.size, 2, none⟩ = some (.slice A2 n2 c2) := HA1.out.cell 2; have p10 : w1.cell? ⟨W.heap.size + 1 + 1, 0, none⟩ = some (.slice none 0 0) := HR1.out.cell 0; have f10 := HR1.out.frozen 0; have p11 : w1.cell? ⟨W.heap.size + 1 + 1, 1, none⟩ = some (.int .i64 0) := HR1.out.cell 1; have f11 := HR1.out.frozen 1)
  go_wp2_with (go_at_call 24; have hbs : Below (W.heap.size + 2) w1 ((w1.setCell ⟨W.heap.size + 1 + 1, 0, none⟩ (.slice (some ⟨W.heap.size + 1 + 1 + 1, 0, none⟩) n0 n0)).setCell ⟨W.heap.size + 1 + 1, 1, none⟩ (.int .i64 x1)) := (below_set w1 (p := ⟨W.heap.size + 1 + 1, 0, none⟩) (B := W.heap.size + 2) (Nat.le_refl _) (.slice (some ⟨W.heap.size + 1 + 1 + 1, 0, none⟩) n0 n0)).setCell (Nat.le_refl _) (.int .i64 x1); have hzz : ((w1.setCell ⟨W.heap.size + 1 + 1, 0, none⟩ (.slice (some ⟨W.heap.size + 1 + 1 + 1, 0, none⟩) n0 n0)).setCell ⟨W.heap.size + 1 + 1, 1, none⟩ (.int .i64 x1)).heap.size = w1.heap.size := (by simp [World.setCell]); have HQ := toStringS_any A2 n2 c2 x2 ((w1.setCell ⟨W.heap.size + 1 + 1, 0, none⟩ (.slice (some ⟨W.heap.size + 1 + 1 + 1, 0, none⟩) n0 n0)).setCell ⟨W.heap.size + 1 + 1, 1, none⟩ (.int .i64 x1)) (HK2.out.go (HB1.out.trans (hbs.mono (by omega)))) HS2.out; refine Calls.mono HQ ?_; clear HQ; rintro e w2 ⟨rfl, h⟩; obtain ⟨hv, hb⟩ := h.out; have hd := hv.det; rw [hzz] at hb hv hd; have hsz := hb.size; rw [hzz] at hsz; have hs1 := HG1.out; have HA2 := Lib.hid ((HA1.out.below hbs (by omega)).below hb (by omega)); have HR2 := Lib.hid ((((HR1.out).set_ 0 (.slice (some ⟨W.heap.size + 1 + 1 + 1, 0, none⟩) n0 n0)).set_ 1 (.int .i64 x1)).below hb (by omega)); have HO2 := Lib.hid ((HO1.out.below hbs (by omega)).below hb (by omega)); have HB2 := Lib.hid ((HB1.out.trans (hbs.mono (by omega))).trans (hb.mono (by omega))); have HG2 : Hid (W.heap.size + 3 ≤ w2.heap.size) := (Nat.le_trans hs1 hsz); have HV2_2 : Hid (Det (w1.heap.size) w2.heap.size w2 fun w => StI w w2.heap.size (some ⟨w1.heap.size, 0, none⟩) n2 x2) := hd; have HZ2 : Hid (w1.heap.size ≠ W.heap.size + 1 + 1) := (by show _ ≠ _; omega); have HV2_0 := Lib.hid ((((((HV1_0.out).set (p := ⟨W.heap.size + 1 + 1, 0, none⟩) (by have := HG1.out; dsimp only; omega) (.slice (some ⟨W.heap.size + 1 + 1 + 1, 0, none⟩) n0 n0)).set (p := ⟨W.heap.size + 1 + 1, 1, none⟩) (by have := HG1.out; dsimp only; omega) (.int .i64 x1)).below hb (by omega)).wide (Nat.le_refl _) hsz).imp fun w h => h.more hsz); clear hbs hzz hb hv hd h hsz hs1 HK2; have q23 : w2.cell? ⟨W.heap.size, 3, none⟩ = some (.slice A3 n3 c3) := HA2.out.cell 3; have p22 : w2.cell? ⟨W.heap.size + 1 + 1, 2, none⟩ = some (.slice none 0 0) := HR2.out.cell 2; have f22 := HR2.out.frozen 2)
  go_wp2_with (go_at_call 25; have hbs : Below (W.heap.size + 2) w2 (w2.setCell ⟨W.heap.size + 1 + 1, 2, none⟩ (.slice (some ⟨w1.heap.size, 0, none⟩) n2 n2)) := below_set w2 (p := ⟨W.heap.size + 1 + 1, 2, none⟩) (B := W.heap.size + 2) (Nat.le_refl _) (.slice (some ⟨w1.heap.size, 0, none⟩) n2 n2); have hzz : (w2.setCell ⟨W.heap.size + 1 + 1, 2, none⟩ (.slice (some ⟨w1.heap.size, 0, none⟩) n2 n2)).heap.size = w2.heap.size := (by simp [World.setCell]); have HQ := toFileS_any A3 n3 c3 x3 (w2.setCell ⟨W.heap.size + 1 + 1, 2, none⟩ (.slice (some ⟨w1.heap.size, 0, none⟩) n2 n2)) (HK3.out.go (HB2.out.trans (hbs.mono (by omega)))) HS3.out.1 HS3.out.2; refine Calls.mono HQ ?_; clear HQ; rintro e w3 ⟨rfl, h⟩; obtain ⟨hv, hb, hd⟩ := h.out; rw [hzz] at hb hv hd; have hsz := hb.size; rw [hzz] at hsz; have hs1 := HG2.out; have HA3 := Lib.hid ((HA2.out.below hbs (by omega)).below hb (by omega)); have HR3 := Lib.hid (((HR2.out).set_ 2 (.slice (some ⟨w1.heap.size, 0, none⟩) n2 n2)).below hb (by omega)); have HO3 := Lib.hid ((HO2.out.below hbs (by omega)).below hb (by omega)); have HB3 := Lib.hid ((HB2.out.trans (hbs.mono (by omega))).trans (hb.mono (by omega))); have HG3 : Hid (W.heap.size + 3 ≤ w3.heap.size) := (Nat.le_trans hs1 hsz); have HV3_3 : Hid (Det (w2.heap.size) w3.heap.size w3 fun w => FlI w w3.heap.size (some ⟨w2.heap.size, 0, none⟩) n3 x3) := hd; have HZ3 : Hid (w2.heap.size ≠ W.heap.size + 1 + 1) := (by show _ ≠ _; omega); have HV3_0 := Lib.hid (((((HV2_0.out).set (p := ⟨W.heap.size + 1 + 1, 2, none⟩) (by have := HG2.out; dsimp only; omega) (.slice (some ⟨w1.heap.size, 0, none⟩) n2 n2)).below hb (by omega)).wide (Nat.le_refl _) hsz).imp fun w h => h.more hsz); have HV3_2 := Lib.hid (((((HV2_2.out).set (p := ⟨W.heap.size + 1 + 1, 2, none⟩) (by have := HG1.out; dsimp only; omega) (.slice (some ⟨w1.heap.size, 0, none⟩) n2 n2)).below hb (by omega)).wide (Nat.le_refl _) hsz).imp fun w h => h.more hsz); clear hbs hzz hb hv hd h hsz hs1 HK3; have q34 : w3.cell? ⟨W.heap.size, 4, none⟩ = some (.slice A4 n4 c4) := HA3.out.cell 4; have p33 : w3.cell? ⟨W.heap.size + 1 + 1, 3, none⟩ = some (.slice none 0 0) := HR3.out.cell 3; have f33 := HR3.out.frozen 3)
  go_wp2_with (go_at_call 24; have hbs : Below (W.heap.size + 2) w3 (w3.setCell ⟨W.heap.size + 1 + 1, 3, none⟩ (.slice (some ⟨w2.heap.size, 0, none⟩) n3 n3)) := below_set w3 (p := ⟨W.heap.size + 1 + 1, 3, none⟩) (B := W.heap.size + 2) (Nat.le_refl _) (.slice (some ⟨w2.heap.size, 0, none⟩) n3 n3); have hzz : (w3.setCell ⟨W.heap.size + 1 + 1, 3, none⟩ (.slice (some ⟨w2.heap.size, 0, none⟩) n3 n3)).heap.size = w3.heap.size := (by simp [World.setCell]); have HQ := toStringS_any A4 n4 c4 x4 (w3.setCell ⟨W.heap.size + 1 + 1, 3, none⟩ (.slice (some ⟨w2.heap.size, 0, none⟩) n3 n3)) (HK4.out.go (HB3.out.trans (hbs.mono (by omega)))) HS4.out; refine Calls.mono HQ ?_; clear HQ; rintro e w4 ⟨rfl, h⟩; obtain ⟨hv, hb⟩ := h.out; have hd := hv.det; rw [hzz] at hb hv hd; have hsz := hb.size; rw [hzz] at hsz; have hs1 := HG3.out; have HA4 := Lib.hid ((HA3.out.below hbs (by omega)).below hb (by omega)); have HR4 := Lib.hid (((HR3.out).set_ 3 (.slice (some ⟨w2.heap.size, 0, none⟩) n3 n3)).below hb (by omega)); have HO4 := Lib.hid ((HO3.out.below hbs (by omega)).below hb (by omega)); have HB4 := Lib.hid ((HB3.out.trans (hbs.mono (by omega))).trans (hb.mono (by omega))); have HG4 : Hid (W.heap.size + 3 ≤ w4.heap.size) := (Nat.le_trans hs1 hsz); have HV4_4 : Hid (Det (w3.heap.size) w4.heap.size w4 fun w => StI w w4.heap.size (some ⟨w3.heap.size, 0, none⟩) n4 x4) := hd; have HZ4 : Hid (w3.heap.size ≠ W.heap.size + 1 + 1) := (by show _ ≠ _; omega); have HV4_0 := Lib.hid (((((HV3_0.out).set (p := ⟨W.heap.size + 1 + 1, 3, none⟩) (by have := HG3.out; dsimp only; omega) (.slice (some ⟨w2.heap.size, 0, none⟩) n3 n3)).below hb (by omega)).wide (Nat.le_refl _) hsz).imp fun w h => h.more hsz); have HV4_2 := Lib.hid (((((HV3_2.out).set (p := ⟨W.heap.size + 1 + 1, 3, none⟩) (by have := HG1.out; dsimp only; omega) (.slice (some ⟨w2.heap.size, 0, none⟩) n3 n3)).below hb (by omega)).wide (Nat.le_refl _) hsz).imp fun w h => h.more hsz); have HV4_3 := Lib.hid (((((HV3_3.out).set (p := ⟨W.heap.size + 1 + 1, 3, none⟩) (by have := HG2.out; dsimp only; omega) (.slice (some ⟨w2.heap.size, 0, none⟩) n3 n3)).below hb (by omega)).wide (Nat.le_refl _) hsz).imp fun w h => h.more hsz); clear hbs hzz hb hv hd h hsz hs1 HK4; have p44 : w4.cell? ⟨W.heap.size + 1 + 1, 4, none⟩ = some (.slice none 0 0) := HR4.out.cell 4; have f44 := HR4.out.frozen 4; have p40 : w4.cell? ⟨W.heap.size + 1 + 1, 0, none⟩ = some (.slice (some ⟨W.heap.size + 1 + 1 + 1, 0, none⟩) n0 n0) := HR4.out.cell 0; have p41 : w4.cell? ⟨W.heap.size + 1 + 1, 1, none⟩ = some (.int .i64 x1) := HR4.out.cell 1; have p42 : w4.cell? ⟨W.heap.size + 1 + 1, 2, none⟩ = some (.slice (some ⟨w1.heap.size, 0, none⟩) n2 n2) := HR4.out.cell 2; have p43 : w4.cell? ⟨W.heap.size + 1 + 1, 3, none⟩ = some (.slice (some ⟨w2.heap.size, 0, none⟩) n3 n3) := HR4.out.cell 3; have r0 : w4.cell? ⟨W.heap.size + 1, 0, none⟩ = some (.slice none 0 0) := HO4.out.cell 0; have z0 := HO4.out.frozen 0; have r1 : w4.cell? ⟨W.heap.size + 1, 1, none⟩ = some (.int .i64 0) := HO4.out.cell 1; have z1 := HO4.out.frozen 1; have r2 : w4.cell? ⟨W.heap.size + 1, 2, none⟩ = some (.slice none 0 0) := HO4.out.cell 2; have z2 := HO4.out.frozen 2; have r3 : w4.cell? ⟨W.heap.size + 1, 3, none⟩ = some (.slice none 0 0) := HO4.out.cell 3; have z3 := HO4.out.frozen 3; have r4 : w4.cell? ⟨W.heap.size + 1, 4, none⟩ = some (.slice none 0 0) := HO4.out.cell 4; have z4 := HO4.out.frozen 4)
  have hs1 := HG4.out
  have hb1 : Below (W.heap.size + 1) w4 ((((((w4.setCell ⟨W.heap.size + 1 + 1, 4, none⟩ (.slice (some ⟨w3.heap.size, 0, none⟩) n4 n4)).setCell ⟨W.heap.size + 1, 0, none⟩ (.slice (some ⟨W.heap.size + 1 + 1 + 1, 0, none⟩) n0 n0)).setCell ⟨W.heap.size + 1, 1, none⟩ (.int .i64 x1)).setCell ⟨W.heap.size + 1, 2, none⟩ (.slice (some ⟨w1.heap.size, 0, none⟩) n2 n2)).setCell ⟨W.heap.size + 1, 3, none⟩ (.slice (some ⟨w2.heap.size, 0, none⟩) n3 n3)).setCell ⟨W.heap.size + 1, 4, none⟩ (.slice (some ⟨w3.heap.size, 0, none⟩) n4 n4)) := ((((((below_set w4 (p := ⟨W.heap.size + 1 + 1, 4, none⟩) (by simp) _).setCell (by simp) _).setCell (by simp) _).setCell (by simp) _).setCell (by simp) _).setCell (by simp) _)
  have hzz : ((((((w4.setCell ⟨W.heap.size + 1 + 1, 4, none⟩ (.slice (some ⟨w3.heap.size, 0, none⟩) n4 n4)).setCell ⟨W.heap.size + 1, 0, none⟩ (.slice (some ⟨W.heap.size + 1 + 1 + 1, 0, none⟩) n0 n0)).setCell ⟨W.heap.size + 1, 1, none⟩ (.int .i64 x1)).setCell ⟨W.heap.size + 1, 2, none⟩ (.slice (some ⟨w1.heap.size, 0, none⟩) n2 n2)).setCell ⟨W.heap.size + 1, 3, none⟩ (.slice (some ⟨w2.heap.size, 0, none⟩) n3 n3)).setCell ⟨W.heap.size + 1, 4, none⟩ (.slice (some ⟨w3.heap.size, 0, none⟩) n4 n4)).heap.size = w4.heap.size := by simp [World.setCell]
  refine bodyPost_ret (v := .agg #[.slice (some ⟨W.heap.size + 1 + 1 + 1, 0, none⟩) n0 n0, .int .i64 x1, .slice (some ⟨w1.heap.size, 0, none⟩) n2 n2, .slice (some ⟨w2.heap.size, 0, none⟩) n3 n3, .slice (some ⟨w3.heap.size, 0, none⟩) n4 n4]) (results_cell_row Tryz.results8 _ _ (W.heap.size + 1) 32 _ (0, 0) _ rfl ((((((((((((HO4.out).other (p := ⟨W.heap.size + 1 + 1, 4, none⟩) (by simp) (.slice (some ⟨w3.heap.size, 0, none⟩) n4 n4))).set_ 0 (.slice (some ⟨W.heap.size + 1 + 1 + 1, 0, none⟩) n0 n0))).set_ 1 (.int .i64 x1))).set_ 2 (.slice (some ⟨w1.heap.size, 0, none⟩) n2 n2))).set_ 3 (.slice (some ⟨w2.heap.size, 0, none⟩) n3 n3))).set_ 4 (.slice (some ⟨w3.heap.size, 0, none⟩) n4 n4)) Tryz.underlying32 rfl (by kernel_rfl)) rfl ⟨⟨some ⟨W.heap.size + 1 + 1 + 1, 0, none⟩, n0, n0, Nat.le_refl _, some ⟨w1.heap.size, 0, none⟩, n2, n2, Nat.le_refl _, some ⟨w2.heap.size, 0, none⟩, n3, n3, Nat.le_refl _, some ⟨w3.heap.size, 0, none⟩, n4, n4, Nat.le_refl _⟩, rfl, Lib.hid ⟨?_, HB4.out.trans (hb1.mono (by omega)), HV4_0.out.self.1.symm, HV4_2.out.self.1.symm, HV4_3.out.self.1.symm, HV4_4.out.self.1.symm, _, _, _, _, rfl, rfl, rfl, rfl, by omega, by have := HG1.out; have := HG2.out; have := HG3.out; have := HG4.out; omega, by have := HG1.out; have := HG2.out; have := HG3.out; have := HG4.out; omega, by have := HG1.out; have := HG2.out; have := HG3.out; have := HG4.out; omega⟩⟩
  show CnV ((((((w4.setCell ⟨W.heap.size + 1 + 1, 4, none⟩ (.slice (some ⟨w3.heap.size, 0, none⟩) n4 n4)).setCell ⟨W.heap.size + 1, 0, none⟩ (.slice (some ⟨W.heap.size + 1 + 1 + 1, 0, none⟩) n0 n0)).setCell ⟨W.heap.size + 1, 1, none⟩ (.int .i64 x1)).setCell ⟨W.heap.size + 1, 2, none⟩ (.slice (some ⟨w1.heap.size, 0, none⟩) n2 n2)).setCell ⟨W.heap.size + 1, 3, none⟩ (.slice (some ⟨w2.heap.size, 0, none⟩) n3 n3)).setCell ⟨W.heap.size + 1, 4, none⟩ (.slice (some ⟨w3.heap.size, 0, none⟩) n4 n4)) ((((((w4.setCell ⟨W.heap.size + 1 + 1, 4, none⟩ (.slice (some ⟨w3.heap.size, 0, none⟩) n4 n4)).setCell ⟨W.heap.size + 1, 0, none⟩ (.slice (some ⟨W.heap.size + 1 + 1 + 1, 0, none⟩) n0 n0)).setCell ⟨W.heap.size + 1, 1, none⟩ (.int .i64 x1)).setCell ⟨W.heap.size + 1, 2, none⟩ (.slice (some ⟨w1.heap.size, 0, none⟩) n2 n2)).setCell ⟨W.heap.size + 1, 3, none⟩ (.slice (some ⟨w2.heap.size, 0, none⟩) n3 n3)).setCell ⟨W.heap.size + 1, 4, none⟩ (.slice (some ⟨w3.heap.size, 0, none⟩) n4 n4)).heap.size ⟨x0, x1, x2, x3, x4⟩ ⟨some ⟨W.heap.size + 1 + 1 + 1, 0, none⟩, n0, n0, Nat.le_refl _, some ⟨w1.heap.size, 0, none⟩, n2, n2, Nat.le_refl _, some ⟨w2.heap.size, 0, none⟩, n3, n3, Nat.le_refl _, some ⟨w3.heap.size, 0, none⟩, n4, n4, Nat.le_refl _⟩
  rw [hzz]
  exact ⟨((((((((((((HV4_0.out).set (p := ⟨W.heap.size + 1 + 1, 4, none⟩) (by first | (dsimp only; omega) | omega) _)).set (p := ⟨W.heap.size + 1, 0, none⟩) (by first | (dsimp only; omega) | omega) _)).set (p := ⟨W.heap.size + 1, 1, none⟩) (by first | (dsimp only; omega) | omega) _)).set (p := ⟨W.heap.size + 1, 2, none⟩) (by first | (dsimp only; omega) | omega) _)).set (p := ⟨W.heap.size + 1, 3, none⟩) (by first | (dsimp only; omega) | omega) _)).set (p := ⟨W.heap.size + 1, 4, none⟩) (by first | (dsimp only; omega) | omega) _).self, ((((((((((((HV4_2.out).set (p := ⟨W.heap.size + 1 + 1, 4, none⟩) (by have := HG1.out; first | (dsimp only; omega) | omega) _)).set (p := ⟨W.heap.size + 1, 0, none⟩) (by have := HG1.out; first | (dsimp only; omega) | omega) _)).set (p := ⟨W.heap.size + 1, 1, none⟩) (by have := HG1.out; first | (dsimp only; omega) | omega) _)).set (p := ⟨W.heap.size + 1, 2, none⟩) (by have := HG1.out; first | (dsimp only; omega) | omega) _)).set (p := ⟨W.heap.size + 1, 3, none⟩) (by have := HG1.out; first | (dsimp only; omega) | omega) _)).set (p := ⟨W.heap.size + 1, 4, none⟩) (by have := HG1.out; first | (dsimp only; omega) | omega) _).self, ((((((((((((HV4_3.out).set (p := ⟨W.heap.size + 1 + 1, 4, none⟩) (by have := HG2.out; first | (dsimp only; omega) | omega) _)).set (p := ⟨W.heap.size + 1, 0, none⟩) (by have := HG2.out; first | (dsimp only; omega) | omega) _)).set (p := ⟨W.heap.size + 1, 1, none⟩) (by have := HG2.out; first | (dsimp only; omega) | omega) _)).set (p := ⟨W.heap.size + 1, 2, none⟩) (by have := HG2.out; first | (dsimp only; omega) | omega) _)).set (p := ⟨W.heap.size + 1, 3, none⟩) (by have := HG2.out; first | (dsimp only; omega) | omega) _)).set (p := ⟨W.heap.size + 1, 4, none⟩) (by have := HG2.out; first | (dsimp only; omega) | omega) _).self, ((((((((((((HV4_4.out).set (p := ⟨W.heap.size + 1 + 1, 4, none⟩) (by have := HG3.out; first | (dsimp only; omega) | omega) _)).set (p := ⟨W.heap.size + 1, 0, none⟩) (by have := HG3.out; first | (dsimp only; omega) | omega) _)).set (p := ⟨W.heap.size + 1, 1, none⟩) (by have := HG3.out; first | (dsimp only; omega) | omega) _)).set (p := ⟨W.heap.size + 1, 2, none⟩) (by have := HG3.out; first | (dsimp only; omega) | omega) _)).set (p := ⟨W.heap.size + 1, 3, none⟩) (by have := HG3.out; first | (dsimp only; omega) | omega) _)).set (p := ⟨W.heap.size + 1, 4, none⟩) (by have := HG3.out; first | (dsimp only; omega) | omega) _).self⟩


end Go.Proofs.YtfcpdjfckeoniaaGreatDoor

namespace Go.Proofs.YtfcpdjfckeoniaaGreatDoor
open Go Go.RowKit

set_option maxHeartbeats 1000000 in
set_option maxRecDepth 100000 in
theorem eqConsole_same (x : Cn) (l l' : CnLay) (W : World) (ho : CnV W W.heap.size x l) (ho' : CnV W W.heap.size x l') :
    Calls Tryz.prog 11 #[x.ag l, x.ag l'] W fun e w' => e = .returned (.bool true) ∧ Below W.heap.size W w' := by
  obtain ⟨x0, x1, x2, x3, x4⟩ := x
  obtain ⟨A0, n0, c0, h0, A2, n2, c2, h2, A3, n3, c3, h3, A4, n4, c4, h4⟩ := l
  obtain ⟨A0', n0', c0', h0', A2', n2', c2', h2', A3', n3', c3', h3', A4', n4', c4', h4'⟩ := l'
  obtain ⟨k0, k2, k3, k4⟩ := ho
  obtain ⟨j0, j2, j3, j4⟩ := ho'
  try unfold CnV at k0 j0 k2 j2 k3 j3 k4 j4
  dsimp only at k0 j0 k2 j2 k3 j3 k4 j4
  obtain rfl : n0 = n0' := k0.1.symm.trans j0.1
  have HK0 := Lib.hid k0
  have HJ0 := Lib.hid j0
  obtain rfl : n2 = n2' := k2.1.symm.trans j2.1
  have HK2 := Lib.hid k2
  have HJ2 := Lib.hid j2
  obtain rfl : n3 = n3' := k3.1.symm.trans j3.1
  have HK3 := Lib.hid k3
  have HJ3 := Lib.hid j3
  obtain rfl : n4 = n4' := k4.1.symm.trans j4.1
  have HK4 := Lib.hid k4
  have HJ4 := Lib.hid j4
  clear k0 j0 k2 j2 k3 j3 k4 j4
  have HC := Lib.hid (two_new W 32 #[.slice A0 n0 c0, .int .i64 x1, .slice A2 n2 c2, .slice A3 n3 c3, .slice A4 n4 c4] #[.slice A0' n0 c0', .int .i64 x1, .slice A2' n2 c2', .slice A3' n3 c3', .slice A4' n4 c4'])
  show Calls Tryz.prog 11 #[.agg #[.slice A0 n0 c0, .int .i64 x1, .slice A2 n2 c2, .slice A3 n3 c3, .slice A4 n4 c4], .agg #[.slice A0' n0 c0', .int .i64 x1, .slice A2' n2 c2', .slice A3' n3 c3', .slice A4' n4 c4']] W _
  go_enter Tryz.func11, Tryz.ntmps11
  go_wp2_with (go_at_call 29; obtain ⟨g0, g1, g2, g3⟩ := HC.out _ rfl; have HQ := eqStringS_same A0 A0' n0 c0 c0' x0 _ (HK0.out.go g2) (HJ0.out.go g2); refine Calls.mono HQ ?_; clear HQ; rintro e w1 ⟨rfl, hb⟩; have HA1 := Lib.hid (g0.below hb (by omega)); have HD1 := Lib.hid (g1.below hb (by omega)); have HB1 := Lib.hid (g2.trans (hb.mono g2.size)); have HG1 : Hid (W.heap.size + 2 ≤ w1.heap.size) := (by have := hb.size; show _ ≤ _; omega); have q11 : w1.cell? ⟨W.heap.size, 1, none⟩ = some (.int .i64 x1) := HA1.out.cell 1; have p11 : w1.cell? ⟨W.heap.size + 1, 1, none⟩ = some (.int .i64 x1) := HD1.out.cell 1; have q12 : w1.cell? ⟨W.heap.size, 2, none⟩ = some (.slice A2 n2 c2) := HA1.out.cell 2; have p12 : w1.cell? ⟨W.heap.size + 1, 2, none⟩ = some (.slice A2' n2 c2') := HD1.out.cell 2; clear g0 g1 g2 g3 hb HK0)
  go_wp2_with (go_at_call 29; have HQ := eqStringS_same A2 A2' n2 c2 c2' x2 _ (HK2.out.go HB1.out) (HJ2.out.go HB1.out); refine Calls.mono HQ ?_; clear HQ; rintro e w2 ⟨rfl, hb⟩; have hg := HG1.out; have HA2 := Lib.hid (HA1.out.below hb (by omega)); have HD2 := Lib.hid (HD1.out.below hb (by omega)); have HB2 := Lib.hid (HB1.out.trans (hb.mono HB1.out.size)); have HG2 : Hid (W.heap.size + 2 ≤ w2.heap.size) := (Nat.le_trans hg hb.size); have q23 : w2.cell? ⟨W.heap.size, 3, none⟩ = some (.slice A3 n3 c3) := HA2.out.cell 3; have p23 : w2.cell? ⟨W.heap.size + 1, 3, none⟩ = some (.slice A3' n3 c3') := HD2.out.cell 3; clear hg hb HK2)
  go_wp2_with (go_at_call 30; have HQ := eqFileS_same A3 A3' n3 c3 c3' x3 _ (HK3.out.go HB2.out) (HJ3.out.go HB2.out); refine Calls.mono HQ ?_; clear HQ; rintro e w3 ⟨rfl, hb⟩; have hg := HG2.out; have HA3 := Lib.hid (HA2.out.below hb (by omega)); have HD3 := Lib.hid (HD2.out.below hb (by omega)); have HB3 := Lib.hid (HB2.out.trans (hb.mono HB2.out.size)); have HG3 : Hid (W.heap.size + 2 ≤ w3.heap.size) := (Nat.le_trans hg hb.size); have q34 : w3.cell? ⟨W.heap.size, 4, none⟩ = some (.slice A4 n4 c4) := HA3.out.cell 4; have p34 : w3.cell? ⟨W.heap.size + 1, 4, none⟩ = some (.slice A4' n4 c4') := HD3.out.cell 4; clear hg hb HK3)
  go_wp2_with (go_at_call 29; have HQ := eqStringS_same A4 A4' n4 c4 c4' x4 _ (HK4.out.go HB3.out) (HJ4.out.go HB3.out); refine Calls.mono HQ ?_; clear HQ; rintro e w4 ⟨rfl, hb⟩; have hg := HG3.out; have HA4 := Lib.hid (HA3.out.below hb (by omega)); have HD4 := Lib.hid (HD3.out.below hb (by omega)); have HB4 := Lib.hid (HB3.out.trans (hb.mono HB3.out.size)); have HG4 : Hid (W.heap.size + 2 ≤ w4.heap.size) := (Nat.le_trans hg hb.size); clear hg hb HK4)
  all_goals go_ret
  all_goals exact ⟨rfl, HB4.out⟩

/-- Two in two blocks, and their lists. -/
def TwoCn (wr : World) (b b' p p' : Nat) (x y : Cn) (l l' : CnLay) (w : World) : Prop := CnAt w b p x l ∧ CnAt w b' p' y l' ∧ CnV w w.heap.size x l ∧ CnV w w.heap.size y l' ∧ Below wr.heap.size wr w ∧ b < w.heap.size ∧ b' < w.heap.size
theorem TwoCn.grow {wr w w' : World} {b b' p p' : Nat} {x y : Cn} {l l' : CnLay} (h : TwoCn wr b b' p p' x y l l' w) (hb : Below w.heap.size w w') : TwoCn wr b b' p p' x y l l' w' :=
  ⟨h.1.below hb h.2.2.2.2.2.1, h.2.1.below hb h.2.2.2.2.2.2, (h.2.2.1.below hb).more hb.size, (h.2.2.2.1.below hb).more hb.size, h.2.2.2.2.1.trans (hb.mono h.2.2.2.2.1.size), Nat.lt_of_lt_of_le h.2.2.2.2.2.1 hb.size, Nat.lt_of_lt_of_le h.2.2.2.2.2.2 hb.size⟩
/-- .. cell by cell, as the walk of a region asks it. -/
abbrev FlatCn (wr : World) (b b' p p' : Nat) (x y : Cn) (l l' : CnLay) (w : World) : Prop := (w.cell? ⟨b, p, none⟩ = some (.slice l.A0 l.n0 l.c0) ∧ w.cell? ⟨b, p + 1, none⟩ = some (.int .i64 x.at_) ∧ w.cell? ⟨b, p + 2, none⟩ = some (.slice l.A2 l.n2 l.c2) ∧ w.cell? ⟨b, p + 3, none⟩ = some (.slice l.A3 l.n3 l.c3) ∧ w.cell? ⟨b, p + 4, none⟩ = some (.slice l.A4 l.n4 l.c4)) ∧ (w.cell? ⟨b', p', none⟩ = some (.slice l'.A0 l'.n0 l'.c0) ∧ w.cell? ⟨b', p' + 1, none⟩ = some (.int .i64 y.at_) ∧ w.cell? ⟨b', p' + 2, none⟩ = some (.slice l'.A2 l'.n2 l'.c2) ∧ w.cell? ⟨b', p' + 3, none⟩ = some (.slice l'.A3 l'.n3 l'.c3) ∧ w.cell? ⟨b', p' + 4, none⟩ = some (.slice l'.A4 l'.n4 l'.c4)) ∧ TwoCn wr b b' p p' x y l l' w
theorem TwoCn.flat {wr w : World} {b b' p p' : Nat} {x y : Cn} {l l' : CnLay} (h : TwoCn wr b b' p p' x y l l' w) : FlatCn wr b b' p p' x y l l' w := ⟨h.1, h.2.1, h⟩
theorem TwoCn.drew {wr : World} {b b' p p' : Nat} {x y : Cn} {l l' : CnLay} (h : TwoCn wr b b' p p' x y l l' wr) : TwoCn wr b b' p p' x y l l' wr.drew := h.grow (Below.refl _ _).drew

end Go.Proofs.YtfcpdjfckeoniaaGreatDoor

namespace Go.Proofs.YtfcpdjfckeoniaaGreatDoor
open Go Go.RowKit

set_option maxHeartbeats 2000000 in
set_option maxRecDepth 100000 in
theorem eqMemory_same (x : Me) (l l' : MeLay) (W : World) (ho : MeV W W.heap.size x l) (ho' : MeV W W.heap.size x l') :
    Calls Tryz.prog 18 #[x.ag l, x.ag l'] W fun e w' => e = .returned (.bool true) ∧ Below W.heap.size W w' := by
  obtain ⟨x0, x1, x2, x3, x4, x5, x6, x7, x8, x9⟩ := x
  obtain ⟨A1, n1, c1, h1, A2, n2, c2, h2, A3, n3, c3, h3, A4, n4, c4, h4, A5, n5, c5, h5, A7, n7, c7, h7, A8, n8, c8, h8, A9, n9, c9, h9⟩ := l
  obtain ⟨A1', n1', c1', h1', A2', n2', c2', h2', A3', n3', c3', h3', A4', n4', c4', h4', A5', n5', c5', h5', A7', n7', c7', h7', A8', n8', c8', h8', A9', n9', c9', h9'⟩ := l'
  obtain ⟨k0, k1, k2⟩ := ho
  obtain ⟨j0, j1, j2⟩ := ho'
  dsimp only at k0 k1 k2 j0 j1 j2
  obtain rfl : n1 = n1' := k0.1.symm.trans j0.1
  have HQ0 := Lib.hid (fun (w : World) (hb : Below W.heap.size W w) => eqHeap_same x0 A1 A1' n1 c1 c1' x1 w (k0.go hb) (j0.go hb))
  have HQ1 := Lib.hid (fun (w : World) (hb : Below W.heap.size W w) => eqScope_same ⟨x2, x3, x4⟩ ⟨A2, n2, c2, h2, A3, n3, c3, h3, A4, n4, c4, h4⟩ ⟨A2', n2', c2', h2', A3', n3', c3', h3', A4', n4', c4', h4'⟩ w (k1.go hb) (j1.go hb))
  have HQ2 := Lib.hid (fun (w : World) (hb : Below W.heap.size W w) => eqConsole_same ⟨x5, x6, x7, x8, x9⟩ ⟨A5, n5, c5, h5, A7, n7, c7, h7, A8, n8, c8, h8, A9, n9, c9, h9⟩ ⟨A5', n5', c5', h5', A7', n7', c7', h7', A8', n8', c8', h8', A9', n9', c9', h9'⟩ w (k2.go hb) (j2.go hb))
  clear k0 k1 k2 j0 j1 j2
  have HC := Lib.hid (two_new W 62 #[.int .i64 x0, .slice A1 n1 c1, .slice A2 n2 c2, .slice A3 n3 c3, .slice A4 n4 c4, .slice A5 n5 c5, .int .i64 x6, .slice A7 n7 c7, .slice A8 n8 c8, .slice A9 n9 c9] #[.int .i64 x0, .slice A1' n1 c1', .slice A2' n2' c2', .slice A3' n3' c3', .slice A4' n4' c4', .slice A5' n5' c5', .int .i64 x6, .slice A7' n7' c7', .slice A8' n8' c8', .slice A9' n9' c9'])
  show Calls Tryz.prog 18 #[.agg #[.int .i64 x0, .slice A1 n1 c1, .slice A2 n2 c2, .slice A3 n3 c3, .slice A4 n4 c4, .slice A5 n5 c5, .int .i64 x6, .slice A7 n7 c7, .slice A8 n8 c8, .slice A9 n9 c9], .agg #[.int .i64 x0, .slice A1' n1 c1', .slice A2' n2' c2', .slice A3' n3' c3', .slice A4' n4' c4', .slice A5' n5' c5', .int .i64 x6, .slice A7' n7' c7', .slice A8' n8' c8', .slice A9' n9' c9']] W _
  go_enter Tryz.func18, Tryz.ntmps18
  go_wp2_with (go_at_call 47; obtain ⟨g0, g1, g2, g3⟩ := HC.out _ rfl; have HQ := HQ0.out _ g2; refine Calls.mono HQ ?_; clear HQ; rintro e w1 ⟨rfl, hb⟩; have HA1 := Lib.hid (g0.below hb g0.lt); have HD1 := Lib.hid (g1.below hb g1.lt); have HB1 := Lib.hid (g2.trans (hb.mono g2.size)); have q12 : w1.cell? ⟨W.heap.size, 2, none⟩ = some (.slice A2 n2 c2) := HA1.out.cell 2; have p12 : w1.cell? ⟨W.heap.size + 1, 2, none⟩ = some (.slice A2' n2' c2') := HD1.out.cell 2; have q13 : w1.cell? ⟨W.heap.size, 3, none⟩ = some (.slice A3 n3 c3) := HA1.out.cell 3; have p13 : w1.cell? ⟨W.heap.size + 1, 3, none⟩ = some (.slice A3' n3' c3') := HD1.out.cell 3; have q14 : w1.cell? ⟨W.heap.size, 4, none⟩ = some (.slice A4 n4 c4) := HA1.out.cell 4; have p14 : w1.cell? ⟨W.heap.size + 1, 4, none⟩ = some (.slice A4' n4' c4') := HD1.out.cell 4; clear g0 g1 g2 g3 hb HC HQ0)
  go_wp2_with (go_at_call 48; have HQ := HQ1.out _ HB1.out; refine Calls.mono HQ ?_; clear HQ; rintro e w2 ⟨rfl, hb⟩; have HA2 := Lib.hid (HA1.out.below hb HA1.out.lt); have HD2 := Lib.hid (HD1.out.below hb HD1.out.lt); have HB2 := Lib.hid (HB1.out.trans (hb.mono HB1.out.size)); have q25 : w2.cell? ⟨W.heap.size, 5, none⟩ = some (.slice A5 n5 c5) := HA2.out.cell 5; have p25 : w2.cell? ⟨W.heap.size + 1, 5, none⟩ = some (.slice A5' n5' c5') := HD2.out.cell 5; have q26 : w2.cell? ⟨W.heap.size, 6, none⟩ = some (.int .i64 x6) := HA2.out.cell 6; have p26 : w2.cell? ⟨W.heap.size + 1, 6, none⟩ = some (.int .i64 x6) := HD2.out.cell 6; have q27 : w2.cell? ⟨W.heap.size, 7, none⟩ = some (.slice A7 n7 c7) := HA2.out.cell 7; have p27 : w2.cell? ⟨W.heap.size + 1, 7, none⟩ = some (.slice A7' n7' c7') := HD2.out.cell 7; have q28 : w2.cell? ⟨W.heap.size, 8, none⟩ = some (.slice A8 n8 c8) := HA2.out.cell 8; have p28 : w2.cell? ⟨W.heap.size + 1, 8, none⟩ = some (.slice A8' n8' c8') := HD2.out.cell 8; have q29 : w2.cell? ⟨W.heap.size, 9, none⟩ = some (.slice A9 n9 c9) := HA2.out.cell 9; have p29 : w2.cell? ⟨W.heap.size + 1, 9, none⟩ = some (.slice A9' n9' c9') := HD2.out.cell 9; clear hb HQ1)
  go_wp2_with (go_at_call 11; have HQ := HQ2.out _ HB2.out; refine Calls.mono HQ ?_; clear HQ; rintro e w3 ⟨rfl, hb⟩; have HB3 := Lib.hid (HB2.out.trans (hb.mono HB2.out.size)); clear hb HQ2)
  go_ret
  exact ⟨rfl, HB3.out⟩
end Go.Proofs.YtfcpdjfckeoniaaGreatDoor

namespace Go.Proofs.YtfcpdjfckeoniaaGreatDoor
open Go Go.RowKit

/-- What SameValue answers. -/
def sameV (k n : Int) (t : ByteArray) (r k' n' : Int) (t' : ByteArray) (r' : Int) : Bool := (k == k') && ((n == n') && ((t.toList == t'.toList) && (r == r')))
end Go.Proofs.YtfcpdjfckeoniaaGreatDoor

namespace Go.Proofs.YtfcpdjfckeoniaaGreatDoor
open Go Go.RowKit

theorem sameV_iff (x y : Vl) : sameV x.k x.n x.t x.r y.k y.n y.t y.r = true ↔ x = y := by
  obtain ⟨k, n, t, r⟩ := x
  obtain ⟨k', n', t', r'⟩ := y
  unfold sameV
  simp only [Bool.and_eq_true, beq_iff_eq, Vl.mk.injEq]
  constructor
  · rintro ⟨h1, h2, h3, h4⟩
    exact ⟨h1, h2, WideShapes.bytes_inj (by rw [← ByteArray.toList_eq, ← ByteArray.toList_eq]; exact h3), h4⟩
  · rintro ⟨h1, h2, h3, h4⟩
    exact ⟨h1, h2, by rw [h3], h4⟩
theorem sameV_false {x y : Vl} (h : sameV x.k x.n x.t x.r y.k y.n y.t y.r = false) : x ≠ y := fun e => by rw [(sameV_iff x y).2 e] at h; cases h
end Go.Proofs.YtfcpdjfckeoniaaGreatDoor

namespace Go.Proofs.YtfcpdjfckeoniaaGreatDoor
open Go

/-- The table of the program's text. -/
def classes : List Int := [0, 0, 0, 0, 0, 0, 0, 0, 0, 0, 0, 0, 0, 0, 0, 0, 0, 0, 0, 0, 0, 0, 0, 0, 0, 0, 0, 0, 0, 0, 0, 0, 0, 0, 3, 0, 4, 0, 0, 3, 5, 6, 4, 4, 9, 4, 4, 4, 2, 2, 2, 2, 2, 2, 2, 2, 2, 2, 10, 0, 7, 4, 8, 0, 4, 1, 1, 1, 1, 1, 1, 1, 1, 1, 1, 1, 1, 1, 1, 1, 1, 1, 1, 1, 1, 1, 1, 1, 1, 1, 1, 0, 0, 0, 0, 11, 0, 1, 1, 1, 1, 1, 1, 1, 1, 1, 1, 1, 1, 1, 1, 1, 1, 1, 1, 1, 1, 1, 1, 1, 1, 1, 1, 0, 4, 0, 0, 0]
set_option maxRecDepth 10000 in
theorem classes_length : classes.length = 128 := by decide +kernel
/-- The class of a character. -/
def cls (r : Int) : Int := if 0 ≤ r ∧ r < 128 then classes.getD r.toNat 0 else 0
theorem cls_in {r : Int} (h0 : 0 ≤ r) (h1 : r < 128) : cls r = classes.getD r.toNat 0 := by unfold cls; rw [if_pos ⟨h0, h1⟩]
theorem cls_out {r : Int} (h : r < 0 ∨ 128 ≤ r) : cls r = 0 := by unfold cls; rw [if_neg (by omega)]
theorem all_small {p : Int → Bool} (h : (List.range 256).all (fun i => p (i : Int)) = true) {c : Int} (h0 : 0 ≤ c) (h1 : c ≤ 255) : p c = true := by
  have e : c = ((c.toNat : Nat) : Int) := by omega
  rw [e]
  exact List.all_eq_true.1 h c.toNat (by simp; omega)
theorem cls_bd (r : Int) : 0 ≤ cls r ∧ cls r ≤ 11 := by
  by_cases h : 0 ≤ r ∧ r < 128
  · have := all_small (p := fun c => decide (0 ≤ cls c ∧ cls c ≤ 11)) (by decide +kernel) h.1 (by omega)
    simpa using this
  · rw [cls_out (by omega)]; omega
/-- An operator's byte. -/
def opB (c : Int) : Bool := cls c == 4
theorem opB_mem {c : Int} (h0 : 0 ≤ c) (h1 : c ≤ 255) : opB c = (c == 43 || c == 45 || c == 42 || c == 47 || c == 124 || c == 46 || c == 36 || c == 64 || c == 61) := by
  have := all_small (p := fun c => opB c == (c == 43 || c == 45 || c == 42 || c == 47 || c == 124 || c == 46 || c == 36 || c == 64 || c == 61)) (by decide +kernel) h0 h1
  simpa using this
end Go.Proofs.YtfcpdjfckeoniaaGreatDoor

namespace Go.Proofs.YtfcpdjfckeoniaaGreatDoor
open Go Go.RowKit

theorem gClasses : Tryz.prog.globalNamed "loop.example/g00873/impl.byteClasses" = some 1 := by kernel_rfl
abbrev Classes (W : World) : Prop := Lib.TabIs Tryz.prog W "loop.example/g00873/impl.byteClasses" .u8 classes
theorem Classes.at_ {W : World} (h : Classes W) (i : Nat) (hi : i < 128) : W.cell? ⟨1, i, none⟩ = some (.int .u8 (classes.getD i 0)) := h.cell gClasses i hi

theorem heap_pos {W : World} {o : Nat} {b : Nat} {v : Value} (h : W.cell? ⟨b, o, none⟩ = some v) : b < W.heap.size := by
  rcases Nat.lt_or_ge b W.heap.size with h1 | h1
  · exact h1
  · simp [World.cell?, Array.getElem?_eq_none h1] at h
theorem Classes.below {B : Nat} {W W' : World} (h : Classes W) (hb : Below B W W') (hB : 1 < B) : Classes W' := var?_below hb gClasses hB h

theorem classOf_any (r : Int) (W : World) (hT : Classes W) :
    Calls Tryz.prog 99 #[.int .i32 r] W fun e w' => e = .returned (.int .u8 (cls r)) ∧ W = w' := by
  by_cases h0 : r < 0
  · rw [cls_out (.inl h0)]
    clear hT
    go_enter Tryz.func99, Tryz.ntmps99
    go_wp2
    go_ret
    exact ⟨rfl, rfl⟩
  · by_cases h1 : 128 ≤ r
    · rw [cls_out (.inr h1)]
      clear hT
      go_enter Tryz.func99, Tryz.ntmps99
      go_wp2
      go_ret
      exact ⟨rfl, rfl⟩
    · have hc := hT.at_ r.toNat (by omega)
      rw [cls_in (by omega) (by omega)]
      generalize classes.getD r.toNat 0 = v at hc ⊢
      clear hT
      have h0' : 0 ≤ r := by omega
      have h1' : r < 128 := by omega
      go_enter Tryz.func99, Tryz.ntmps99
      go_wp2
      go_ret
      exact ⟨rfl, rfl⟩
theorem classes_go {w w' : World} (h : Classes w) (hb : Below w.heap.size w w') : Classes w' := h.below hb (heap_pos (h.at_ 0 (by decide)))
end Go.Proofs.YtfcpdjfckeoniaaGreatDoor

namespace Go.Proofs.YtfcpdjfckeoniaaGreatDoor
open Go

def letterB (c : Int) : Bool := cls c == 1
def digitB (c : Int) : Bool := cls c == 2
def contB (c : Int) : Bool := cls c == 1 || cls c == 2 || cls c == 11
theorem letterB_range {c : Int} (h0 : 0 ≤ c) (h1 : c ≤ 255) : letterB c = (decide (65 ≤ c ∧ c ≤ 90) || decide (97 ≤ c ∧ c ≤ 122)) := by
  have := all_small (p := fun c => letterB c == (decide (65 ≤ c ∧ c ≤ 90) || decide (97 ≤ c ∧ c ≤ 122))) (by decide +kernel) h0 h1
  simpa using this
theorem digitB_range {c : Int} (h0 : 0 ≤ c) (h1 : c ≤ 255) : digitB c = decide (48 ≤ c ∧ c ≤ 57) := by
  have := all_small (p := fun c => digitB c == decide (48 ≤ c ∧ c ≤ 57)) (by decide +kernel) h0 h1
  simpa using this
theorem contB_parts {c : Int} (h0 : 0 ≤ c) (h1 : c ≤ 255) : contB c = (letterB c || digitB c || c == 95) := by
  have := all_small (p := fun c => contB c == (letterB c || digitB c || c == 95)) (by decide +kernel) h0 h1
  simpa using this
theorem contB_of_letter {c : Int} (h : letterB c = true) : contB c = true := by
  unfold letterB at h
  unfold contB
  rw [h]
  rfl
theorem contB_high {r : Int} (h : 128 ≤ r) : contB r = false := by
  unfold contB
  rw [cls_out (.inr h)]
  rfl

/-- The end of the longest run of bytes that satisfy p, from k on. -/
def runEnd (p : Int → Bool) (s : ByteArray) (k : Nat) : Nat :=
  if _h : k < s.size ∧ p (PlainAid.bt s k) = true then runEnd p s (k + 1) else k
termination_by s.size - k
theorem runEnd_step {p : Int → Bool} {s : ByteArray} {k : Nat} (h : k < s.size) (hp : p (PlainAid.bt s k) = true) : runEnd p s k = runEnd p s (k + 1) := by
  rw [runEnd, dif_pos ⟨h, hp⟩]
theorem runEnd_stop {p : Int → Bool} {s : ByteArray} {k : Nat} (h : k < s.size → p (PlainAid.bt s k) = false) : runEnd p s k = k := by
  rw [runEnd, dif_neg]
  rintro ⟨h1, h2⟩
  rw [h h1] at h2
  cases h2
theorem runEnd_spec (p : Int → Bool) (s : ByteArray) : ∀ (n k : Nat), s.size - k ≤ n → k ≤ runEnd p s k ∧ (k ≤ s.size → runEnd p s k ≤ s.size) ∧ (∀ j, k ≤ j → j < runEnd p s k → p (PlainAid.bt s j) = true) ∧ (runEnd p s k < s.size → p (PlainAid.bt s (runEnd p s k)) = false)
  | n, k, hn => by
    by_cases h : k < s.size ∧ p (PlainAid.bt s k) = true
    · rw [runEnd_step h.1 h.2]
      cases n with
      | zero => omega
      | succ n =>
        obtain ⟨h1, h2, h3, h4⟩ := runEnd_spec p s n (k + 1) (by omega)
        refine ⟨by omega, fun _ => h2 (by omega), fun j hj1 hj2 => ?_, h4⟩
        by_cases e : j = k
        · rw [e]; exact h.2
        · exact h3 j (by omega) hj2
    · have hs : k < s.size → p (PlainAid.bt s k) = false := fun h1 => by
        cases e : p (PlainAid.bt s k) with
        | false => rfl
        | true => exact absurd ⟨h1, e⟩ h
      rw [runEnd_stop hs]
      exact ⟨Nat.le_refl _, id, fun j h1 h2 => absurd h2 (by omega), hs⟩
theorem runEnd_ge (p : Int → Bool) (s : ByteArray) (k : Nat) : k ≤ runEnd p s k := (runEnd_spec p s _ k (Nat.le_refl _)).1
theorem runEnd_le {p : Int → Bool} {s : ByteArray} {k : Nat} (h : k ≤ s.size) : runEnd p s k ≤ s.size := (runEnd_spec p s _ k (Nat.le_refl _)).2.1 h
theorem runEnd_in {p : Int → Bool} {s : ByteArray} {k : Nat} (j : Nat) (h1 : k ≤ j) (h2 : j < runEnd p s k) : p (PlainAid.bt s j) = true := (runEnd_spec p s _ k (Nat.le_refl _)).2.2.1 j h1 h2
theorem runEnd_at {p : Int → Bool} {s : ByteArray} {k : Nat} (h : runEnd p s k < s.size) : p (PlainAid.bt s (runEnd p s k)) = false := (runEnd_spec p s _ k (Nat.le_refl _)).2.2.2 h
theorem runEnd_all {p : Int → Bool} {s : ByteArray} : decide (runEnd p s 0 = s.size) = allB p s := by
  by_cases h : runEnd p s 0 = s.size
  · rw [allB_true fun i hi => runEnd_in i (Nat.zero_le _) (by omega)]
    simpa using h
  · have := runEnd_le (p := p) (Nat.zero_le s.size)
    rw [allB_false (runEnd p s 0) (by omega) (runEnd_at (by omega))]
    simpa using h

/-- The end of the longest name at an offset. -/
def nameEnd (s : ByteArray) (k : Nat) : Nat := if k < s.size ∧ letterB (PlainAid.bt s k) = true then runEnd contB s k else k
theorem nameEnd_no {s : ByteArray} {k : Nat} (h : k < s.size → letterB (PlainAid.bt s k) = false) : nameEnd s k = k := by
  unfold nameEnd
  rw [if_neg]
  rintro ⟨h1, h2⟩
  rw [h h1] at h2
  cases h2
theorem nameEnd_yes {s : ByteArray} {k : Nat} (h : k < s.size) (h2 : letterB (PlainAid.bt s k) = true) : nameEnd s k = runEnd contB s k := by
  unfold nameEnd
  rw [if_pos ⟨h, h2⟩]
theorem nameEnd_le {s : ByteArray} {k : Nat} (h : k ≤ s.size) : nameEnd s k ≤ s.size := by
  unfold nameEnd
  split
  · exact runEnd_le h
  · exact h

/-- What IsName answers. -/
def isNameB (s : ByteArray) : Bool := decide (0 < s.size ∧ s.size ≤ 12) && letterB (PlainAid.bt s 0) && allB contB s
theorem isName_end {s : ByteArray} (h : 0 < s.size) (h2 : s.size ≤ 12) : isNameB s = decide (nameEnd s 0 = s.size) := by
  unfold isNameB
  have e : decide (0 < s.size ∧ s.size ≤ 12) = true := by simp [h, h2]
  rw [e, Bool.true_and]
  cases hl : letterB (PlainAid.bt s 0) with
  | true =>
    rw [nameEnd_yes h hl, runEnd_all]
    rfl
  | false =>
    rw [nameEnd_no fun _ => hl]
    have : ¬ 0 = s.size := by omega
    simp [this]
theorem isName_out {s : ByteArray} (h : s.size = 0 ∨ 12 < s.size) : isNameB s = false := by
  unfold isNameB
  have e : decide (0 < s.size ∧ s.size ≤ 12) = false := by simp; omega
  rw [e]
  rfl
theorem isName_in {s : ByteArray} (h : 0 < s.size) (h2 : s.size ≤ 12) : isNameB s = (letterB (PlainAid.bt s 0) && allB contB s) := by
  unfold isNameB
  have e : decide (0 < s.size ∧ s.size ≤ 12) = true := by simp [h, h2]
  rw [e, Bool.true_and]
end Go.Proofs.YtfcpdjfckeoniaaGreatDoor

namespace Go.Proofs.YtfcpdjfckeoniaaGreatDoor
open Go Go.RowKit

theorem l02Letter_any (c : Int) (W : World) (h0 : 0 ≤ c) (h1 : c ≤ 255) :
    Calls Tryz.prog 130 #[.int .u8 c] W fun e w' => e = .returned (.bool (letterB c)) ∧ W = w' := by
  rw [letterB_range h0 h1]
  by_cases a : 65 ≤ c
  · have da : decide (65 ≤ c) = true := by simp [a]
    by_cases b : c ≤ 90
    · have db : decide (c ≤ 90) = true := by simp [b]
      have e : (decide (65 ≤ c ∧ c ≤ 90) || decide (97 ≤ c ∧ c ≤ 122)) = true := by simp [a, b]
      rw [e]
      go_enter Tryz.func130, Tryz.ntmps130
      go_wp2
      all_goals go_ret
      all_goals exact ⟨rfl, rfl⟩
    · have db : decide (c ≤ 90) = false := by simp; omega
      by_cases x : 97 ≤ c
      · have dx : decide (97 ≤ c) = true := by simp [x]
        by_cases y : c ≤ 122
        · have dy : decide (c ≤ 122) = true := by simp [y]
          have e : (decide (65 ≤ c ∧ c ≤ 90) || decide (97 ≤ c ∧ c ≤ 122)) = true := by simp [x, y]
          rw [e]
          go_enter Tryz.func130, Tryz.ntmps130
          go_wp2
          all_goals go_ret
          all_goals exact ⟨rfl, rfl⟩
        · have dy : decide (c ≤ 122) = false := by simp; omega
          have e : (decide (65 ≤ c ∧ c ≤ 90) || decide (97 ≤ c ∧ c ≤ 122)) = false := by simp; omega
          rw [e]
          go_enter Tryz.func130, Tryz.ntmps130
          go_wp2
          all_goals go_ret
          all_goals exact ⟨rfl, rfl⟩
      · have dx : decide (97 ≤ c) = false := by simp; omega
        have e : (decide (65 ≤ c ∧ c ≤ 90) || decide (97 ≤ c ∧ c ≤ 122)) = false := by simp; omega
        rw [e]
        go_enter Tryz.func130, Tryz.ntmps130
        go_wp2
        all_goals go_ret
        all_goals exact ⟨rfl, rfl⟩
  · have da : decide (65 ≤ c) = false := by simp; omega
    have dx : decide (97 ≤ c) = false := by simp; omega
    have e : (decide (65 ≤ c ∧ c ≤ 90) || decide (97 ≤ c ∧ c ≤ 122)) = false := by simp; omega
    rw [e]
    go_enter Tryz.func130, Tryz.ntmps130
    go_wp2
    all_goals go_ret
    all_goals exact ⟨rfl, rfl⟩

theorem l02Digit_any (c : Int) (W : World) (h0 : 0 ≤ c) (h1 : c ≤ 255) :
    Calls Tryz.prog 131 #[.int .u8 c] W fun e w' => e = .returned (.bool (digitB c)) ∧ W = w' := by
  rw [digitB_range h0 h1]
  by_cases a : 48 ≤ c
  · have da : decide (48 ≤ c) = true := by simp [a]
    by_cases b : c ≤ 57
    · have db : decide (c ≤ 57) = true := by simp [b]
      have e : decide (48 ≤ c ∧ c ≤ 57) = true := by simp [a, b]
      rw [e]
      go_enter Tryz.func131, Tryz.ntmps131
      go_wp2
      all_goals go_ret
      all_goals exact ⟨rfl, rfl⟩
    · have db : decide (c ≤ 57) = false := by simp; omega
      have e : decide (48 ≤ c ∧ c ≤ 57) = false := by simp; omega
      rw [e]
      go_enter Tryz.func131, Tryz.ntmps131
      go_wp2
      all_goals go_ret
      all_goals exact ⟨rfl, rfl⟩
  · have da : decide (48 ≤ c) = false := by simp; omega
    have e : decide (48 ≤ c ∧ c ≤ 57) = false := by simp; omega
    rw [e]
    go_enter Tryz.func131, Tryz.ntmps131
    go_wp2
    all_goals go_ret
    all_goals exact ⟨rfl, rfl⟩

theorem nat_ret {a b : Nat} (h : a = b) : Ending.returned (.int .i64 (a : Int)) = .returned (.int .i64 (b : Int)) := by rw [h]

set_option maxHeartbeats 1000000 in
theorem l02NameEnd_any (s : ByteArray) (k : Nat) (W : World) (hs : s.size ≤ maxLen) (hk : k ≤ s.size) :
    Calls Tryz.prog 95 #[.string s, .int .i64 k] W fun e w' => e = .returned (.int .i64 (nameEnd s k)) ∧ W = w' := by
  unfold maxLen at hs
  have hb := PlainAid.get_bt s
  by_cases hlt : k < s.size
  · have b0 := PlainAid.bt_nonneg s k
    have b1 := PlainAid.bt_le s k
    have dl : decide (s.size ≤ k) = false := by simp; omega
    obtain ⟨p, hp⟩ : ∃ p, letterB (PlainAid.bt s k) = p := ⟨_, rfl⟩
    have HP := Lib.hid hp
    cases p
    · have HE : Hid (nameEnd s k = k) := nameEnd_no fun _ => hp
      clear hp
      go_enter Tryz.func95, Tryz.ntmps95
      go_wp2_with (go_at_call 130; refine (l02Letter_any _ _ (by omega) (by omega)).mono ?_; rintro e w' ⟨rfl, rfl⟩; rw [HP.out])
      go_ret
      exact ⟨nat_ret HE.out.symm, rfl⟩
    · have HE : Hid (nameEnd s k = runEnd contB s k) := nameEnd_yes hlt hp
      clear hp
      go_enter Tryz.func95, Tryz.ntmps95
      go_wp2_with (go_at_call 130; refine (l02Letter_any _ _ (by omega) (by omega)).mono ?_; rintro e w' ⟨rfl, rfl⟩; rw [HP.out])
      go_loop [1] (fun i => ∃ j : Nat, j ≤ s.size ∧ i = .int .i64 j ∧ Hid (runEnd contB s k = runEnd contB s j)) (fun i => s.size - (intOf i).toNat)
      case atStart => exact ⟨k, hk, rfl, rfl⟩
      case round =>
        obtain ⟨j, hj, rfl, hE⟩ := hrel
        clear b0 b1 dl hlt
        by_cases hlt : j < s.size
        · have b0 := PlainAid.bt_nonneg s j
          have b1 := PlainAid.bt_le s j
          obtain ⟨x, hx⟩ : ∃ x, letterB (PlainAid.bt s j) = x := ⟨_, rfl⟩
          obtain ⟨y, hy⟩ : ∃ y, digitB (PlainAid.bt s j) = y := ⟨_, rfl⟩
          obtain ⟨z, hz⟩ : ∃ z, (PlainAid.bt s j == 95) = z := ⟨_, rfl⟩
          have hc : contB (PlainAid.bt s j) = (x || y || z) := by rw [contB_parts b0 b1, hx, hy, hz]
          have HX := Lib.hid hx
          have HY := Lib.hid hy
          have HC := Lib.hid hc
          clear hx hy hc
          cases x <;> cases y <;> cases z
          all_goals
            go_wp2_with (first
              | (go_at_call 130; refine (l02Letter_any _ _ (by omega) (by omega)).mono ?_; rintro e w' ⟨rfl, rfl⟩; rw [HX.out])
              | (go_at_call 131; refine (l02Digit_any _ _ (by omega) (by omega)).mono ?_; rintro e w' ⟨rfl, rfl⟩; rw [HY.out]))
          · have HS : Hid (runEnd contB s j = j) := runEnd_stop fun _ => HC.out
            go_ret
            exact ⟨nat_ret (by rw [HE.out, hE.out, HS.out]), rfl⟩
          all_goals
            have HS : Hid (runEnd contB s j = runEnd contB s (j + 1)) := runEnd_step hlt HC.out
            go_round
            case rel => exact ⟨j + 1, by omega, by go_num, hE.out.trans HS.out⟩
            case measure => simp [intOf]; omega
        · have HS : Hid (runEnd contB s j = j) := runEnd_stop fun h => absurd h hlt
          go_wp2_with fail
          go_ret
          exact ⟨nat_ret (by rw [HE.out, hE.out, HS.out]), rfl⟩
  · have HE : Hid (nameEnd s k = k) := nameEnd_no fun h => absurd h hlt
    have dl : decide (s.size ≤ k) = true := by simp; omega
    go_enter Tryz.func95, Tryz.ntmps95
    go_wp2_with fail
    go_ret
    exact ⟨nat_ret HE.out.symm, rfl⟩

theorem l02NameEnd_zero (s : ByteArray) (W : World) (hs : s.size ≤ maxLen) :
    Calls Tryz.prog 95 #[.string s, .int .i64 0] W fun e w' => e = .returned (.int .i64 (nameEnd s 0)) ∧ W = w' := l02NameEnd_any s 0 W hs (Nat.zero_le _)

theorem spec_IsName_any (s : ByteArray) (W : World) (hs : s.size ≤ maxLen) :
    Calls Tryz.prog 51 #[.string s] W fun e w' => e = .returned (.bool (isNameB s)) ∧ W = w' := by
  have HS : Hid (s.size ≤ maxLen) := hs
  unfold maxLen at hs
  by_cases h0 : s.size = 0
  · rw [isName_out (.inl h0)]
    have e1 := nil_of_size h0
    have e2 := isEmpty_of_size h0
    go_enter Tryz.func51, Tryz.ntmps51
    go_wp2_with fail
    go_ret
    exact ⟨rfl, rfl⟩
  have hp : 0 < s.size := by omega
  have e1 := ne_nil_of_size hp
  have e2 := not_isEmpty_of_size hp
  by_cases h1 : s.size ≤ 12
  · rw [isName_end hp h1]
    have d1 : decide ((s.size : Int) ≤ 12) = true := by simp; omega
    have hr : ((nameEnd s 0 : Int) == (s.size : Int)) = decide (nameEnd s 0 = s.size) := by
      rw [Bool.eq_iff_iff]; simp; omega
    obtain ⟨x, hx⟩ : ∃ x, decide (nameEnd s 0 = s.size) = x := ⟨_, rfl⟩
    rw [hx] at hr ⊢
    clear hx h0
    have hn : (nameEnd s 0 : Int) ≤ s.size := by
      have := nameEnd_le (Nat.zero_le s.size)
      omega
    cases x
    all_goals
      go_enter Tryz.func51, Tryz.ntmps51
      go_wp2_with (go_at_call 95; refine (l02NameEnd_zero _ _ HS.out).mono ?_; rintro e w' ⟨rfl, rfl⟩)
      go_ret
      exact ⟨rfl, rfl⟩
  · rw [isName_out (.inr (by omega))]
    have d1 : decide ((s.size : Int) ≤ 12) = false := by simp; omega
    go_enter Tryz.func51, Tryz.ntmps51
    go_wp2_with fail
    go_ret
    exact ⟨rfl, rfl⟩

theorem continuesName_any (r : Int) (W : World) (hT : Classes W) :
    Calls Tryz.prog 100 #[.int .i32 r] W fun e w' => e = .returned (.bool (contB r)) ∧ W = w' := by
  unfold contB
  have HT : Hid (Classes W) := hT
  clear hT
  obtain ⟨c, hc⟩ : ∃ c, cls r = c := ⟨_, rfl⟩
  have HC := Lib.hid hc
  rw [hc]
  clear hc
  by_cases a : c = 1
  · subst a
    go_enter Tryz.func100, Tryz.ntmps100
    go_wp2_with (go_at_call 99; refine (classOf_any _ _ HT.out).mono ?_; rintro e w' ⟨rfl, rfl⟩; rw [HC.out])
    go_ret
    exact ⟨rfl, rfl⟩
  by_cases b : c = 2
  · subst b
    go_enter Tryz.func100, Tryz.ntmps100
    go_wp2_with (go_at_call 99; refine (classOf_any _ _ HT.out).mono ?_; rintro e w' ⟨rfl, rfl⟩; rw [HC.out])
    go_ret
    exact ⟨rfl, rfl⟩
  by_cases d : c = 11
  · subst d
    go_enter Tryz.func100, Tryz.ntmps100
    go_wp2_with (go_at_call 99; refine (classOf_any _ _ HT.out).mono ?_; rintro e w' ⟨rfl, rfl⟩; rw [HC.out])
    go_ret
    exact ⟨rfl, rfl⟩
  have ha : (c == 1) = false := by simpa using a
  have hb : (c == 2) = false := by simpa using b
  have hd : (c == 11) = false := by simpa using d
  have hz : (c == 1 || c == 2 || c == 11) = false := by rw [ha, hb, hd]; rfl
  rw [hz]
  clear a b d hz
  go_enter Tryz.func100, Tryz.ntmps100
  go_wp2_with (go_at_call 99; refine (classOf_any _ _ HT.out).mono ?_; rintro e w' ⟨rfl, rfl⟩; rw [HC.out])
  go_ret
  exact ⟨rfl, rfl⟩

theorem impl_IsName_any (s : ByteArray) (W : World) (hs : s.size ≤ maxLen) (hT : Classes W) :
    Calls Tryz.prog 60 #[.string s] W fun e w' => e = .returned (.bool (isNameB s)) ∧ Below W.heap.size W w' := by
  unfold maxLen at hs
  have HT : Hid (Classes W) := hT
  have HG : Hid (1 < W.heap.size) := heap_pos (hT.at_ 0 (by decide))
  have hb := PlainAid.get_bt s
  clear hT
  by_cases h0 : s.size = 0
  · rw [isName_out (.inl h0)]
    have e1 := nil_of_size h0
    have e2 := isEmpty_of_size h0
    go_enter Tryz.func60, Tryz.ntmps60
    go_wp2_with fail
    go_ret
    exact ⟨rfl, Below.refl _ _⟩
  have hp : 0 < s.size := by omega
  have e1 := ne_nil_of_size hp
  have e2 := not_isEmpty_of_size hp
  by_cases h1 : s.size ≤ 12
  · rw [isName_in hp h1]
    have d1 : decide (12 < (s.size : Int)) = false := by simp; omega
    have b0 := PlainAid.bt_nonneg s 0
    have b1 := PlainAid.bt_le s 0
    obtain ⟨x, hx⟩ : ∃ x, letterB (PlainAid.bt s 0) = x := ⟨_, rfl⟩
    rw [hx]
    cases x
    · have hx' : (cls (PlainAid.bt s 0) == 1) = false := hx
      have hx2 : (cls (PlainAid.bt s 0) != 1) = true := by rw [bne, hx']; rfl
      clear hx h0
      go_enter Tryz.func60, Tryz.ntmps60
      go_wp2_with (go_at_call 99; refine (classOf_any _ _ HT.out).mono ?_; rintro e w' ⟨rfl, rfl⟩)
      go_ret
      exact ⟨rfl, Below.refl _ _⟩
    · have hx' : (cls (PlainAid.bt s 0) == 1) = true := hx
      have hx2 : (cls (PlainAid.bt s 0) != 1) = false := by rw [bne, hx']; rfl
      clear hx h0
      go_enter Tryz.func60, Tryz.ntmps60
      go_wp2_with (go_at_call 99; refine (classOf_any _ _ HT.out).mono ?_; rintro e w' ⟨rfl, rfl⟩)
      clear hx' hx2 b0 b1 hb
      go_loopw [] (fun w' => ∃ k : Nat, k ≤ s.size ∧ w' = W.iter s k ∧ Hid (∀ j, j < k → contB (PlainAid.bt s j) = true)) (fun w' => s.size - w'.iterPos W.heap.size)
      case atStart => exact ⟨0, Nat.zero_le _, rfl, fun _ h => absurd h (by omega)⟩
      case round =>
        obtain ⟨k, hk, rfl, hq⟩ := hrel
        have HT2 : Hid (Classes (W.iter s k)) := HT.out.below (below_iter (Below.refl _ _) (Nat.le_refl _) _ _) HG.out
        by_cases hlt : k < s.size
        · have b0 := PlainAid.bt_nonneg s k
          have b1 := PlainAid.bt_le s k
          have hb := PlainAid.get_bt s k hlt
          by_cases h1 : contB (PlainAid.bt s k) = true
          · have HB : Hid (contB (PlainAid.bt s k) = true) := h1
            have hsmall : PlainAid.bt s k < 128 := by
              by_cases hh : 128 ≤ PlainAid.bt s k
              · rw [contB_high hh] at h1
                cases h1
              · omega
            have hd := decode_ascii s k hlt (by omega)
            have hnx : ∀ ty, (Instr.next (.pointer (some ⟨W.heap.size, 0, none⟩)) true ty).run Tryz.prog (W.iter s k) = .ok (.tuple #[.bool true, .int .i64 k, .int .i32 (PlainAid.bt s k)]) (W.iter s (k + 1)) := fun ty => by
              rw [run_next_any W s k ty hlt, hd]
              simp only [hb]
            clear hd h1 hb hsmall
            have HT3 : Hid (Classes (W.iter s (k + 1))) := HT.out.below (below_iter (Below.refl _ _) (Nat.le_refl _) _ _) HG.out
            go_wp2_with (go_at_call 100; refine (continuesName_any _ _ HT3.out).mono ?_; rintro e w' ⟨rfl, rfl⟩; rw [HB.out])
            go_roundw
            case rel => exact ⟨k + 1, by omega, rfl, upto_succ hq.out HB.out⟩
            case measure => simp; omega
          · have h2 : contB (PlainAid.bt s k) = false := by simpa using h1
            have HF : Hid (allB contB s = false) := allB_false k hlt h2
            have hbad : contB ((Utf8.decode s k).1 : Int) = false := by
              by_cases ha : (s[k]'hlt).toNat < 128
              · rw [decode_ascii s k hlt ha]
                simp only [hb]
                exact h2
              · exact contB_high (by have := (decode_high s k hlt (by omega)).1; omega)
            have hnx : ∀ ty, (Instr.next (.pointer (some ⟨W.heap.size, 0, none⟩)) true ty).run Tryz.prog (W.iter s k) = _ := fun ty => run_next_any W s k ty hlt
            generalize (Utf8.decode s k).1 = r at hbad hnx
            generalize (Utf8.decode s k).2 = u at hnx
            have HB := Lib.hid hbad
            have HT3 : Hid (Classes (W.iter s (k + u))) := HT.out.below (below_iter (Below.refl _ _) (Nat.le_refl _) _ _) HG.out
            clear hbad h1 h2 hb
            go_wp2_with (go_at_call 100; refine (continuesName_any _ _ HT3.out).mono ?_; rintro e w' ⟨rfl, rfl⟩; rw [HB.out])
            go_ret
            exact ⟨bool_ret (by rw [HF.out]; rfl), below_iter (Below.refl _ _) (Nat.le_refl _) _ _⟩
        · obtain rfl : k = s.size := by omega
          have HA : Hid (allB contB s = true) := allB_true hq.out
          have hnx : ∀ ty, (Instr.next (.pointer (some ⟨W.heap.size, 0, none⟩)) true ty).run Tryz.prog (W.iter s s.size) = _ := fun ty => run_next_end W s s.size ty hlt
          go_wp2_with fail
          go_ret
          exact ⟨bool_ret (by rw [HA.out]; rfl), below_iter (Below.refl _ _) (Nat.le_refl _) _ _⟩
  · rw [isName_out (.inr (by omega))]
    have d1 : decide (12 < (s.size : Int)) = true := by simp; omega
    go_enter Tryz.func60, Tryz.ntmps60
    go_wp2_with fail
    go_ret
    exact ⟨rfl, Below.refl _ _⟩
end Go.Proofs.YtfcpdjfckeoniaaGreatDoor

namespace Go.Proofs.YtfcpdjfckeoniaaGreatDoor
open Go Go.RowKit

theorem l00In_any (x lo hi : Int) (W : World) :
    Calls Tryz.prog 50 #[.int .i64 x, .int .i64 lo, .int .i64 hi] W fun e w' => e = .returned (.bool (decide (lo ≤ x ∧ x ≤ hi))) ∧ W = w' := by
  by_cases h0 : lo ≤ x
  · have d0 : decide (lo ≤ x) = true := by simp [h0]
    by_cases h1 : x ≤ hi
    · have d1 : decide (x ≤ hi) = true := by simp [h1]
      have e : decide (lo ≤ x ∧ x ≤ hi) = true := by simp [h0, h1]
      rw [e]
      go_enter Tryz.func50, Tryz.ntmps50
      go_wp2
      all_goals go_ret
      all_goals exact ⟨rfl, rfl⟩
    · have d1 : decide (x ≤ hi) = false := by simp; omega
      have e : decide (lo ≤ x ∧ x ≤ hi) = false := by simp; omega
      rw [e]
      go_enter Tryz.func50, Tryz.ntmps50
      go_wp2
      all_goals go_ret
      all_goals exact ⟨rfl, rfl⟩
  · have d0 : decide (lo ≤ x) = false := by simp; omega
    have e : decide (lo ≤ x ∧ x ≤ hi) = false := by simp; omega
    rw [e]
    go_enter Tryz.func50, Tryz.ntmps50
    go_wp2
    all_goals go_ret
    all_goals exact ⟨rfl, rfl⟩
end Go.Proofs.YtfcpdjfckeoniaaGreatDoor

namespace Go.Proofs.YtfcpdjfckeoniaaGreatDoor
open Go Go.RowKit

/-- What ValidValue answers. -/
def validV (k n : Int) (t : ByteArray) (r : Int) : Bool :=
  if k = 1 then (n == 0 && r == 0) && decide (t.size ≤ 200) else if k = 2 then (t.size == 0 && r == 0) && decide (-1000000000000 ≤ n ∧ n ≤ 1000000000000)
  else if k = 3 then (n == 0 && r == 0) && decide (1 ≤ (t.size : Int) ∧ (t.size : Int) ≤ 1200) else if k = 4 ∨ k = 5 ∨ k = 6 then (n == 0 && t.size == 0) && decide (1 ≤ r ∧ r ≤ 1000000)
  else if k = 7 ∨ k = 8 then (n == 0 && r == 0) && isNameB t else false

theorem l06Plain_text (k n : Int) (t : ByteArray) (r : Int) (W : World) :
    Calls Tryz.prog 96 #[.agg #[.int .i64 k, .int .i64 n, .string t, .int .i64 r], .bool false, .bool true, .bool false] W fun e w' => e = .returned (.bool (n == 0 && r == 0)) ∧ Below W.heap.size W w' := by
  obtain ⟨z, hz⟩ : ∃ z, (n == 0) = z := ⟨_, rfl⟩
  obtain ⟨y, hy⟩ : ∃ y, (r == 0) = y := ⟨_, rfl⟩
  rw [hz, hy]
  cases z <;> cases y
  all_goals
    go_enter Tryz.func96, Tryz.ntmps96
    go_wp2_with fail
    go_ret
    exact ⟨rfl, (Below.refl _ _).alloc (Nat.le_refl _) _⟩
theorem l06Plain_num (k n : Int) (t : ByteArray) (r : Int) (W : World) :
    Calls Tryz.prog 96 #[.agg #[.int .i64 k, .int .i64 n, .string t, .int .i64 r], .bool true, .bool false, .bool false] W fun e w' => e = .returned (.bool (t.size == 0 && r == 0)) ∧ Below W.heap.size W w' := by
  obtain ⟨y, hy⟩ : ∃ y, (r == 0) = y := ⟨_, rfl⟩
  rw [hy]
  by_cases h0 : t.size = 0
  · have e1 := nil_of_size h0
    have e2 := isEmpty_of_size h0
    have e3 : (t.size == 0) = true := by simp [h0]
    rw [e3]
    clear e3 h0
    cases y
    all_goals
      go_enter Tryz.func96, Tryz.ntmps96
      go_wp2_with fail
      go_ret
      exact ⟨rfl, (Below.refl _ _).alloc (Nat.le_refl _) _⟩
  · have hp : 0 < t.size := by omega
    have e1 := ne_nil_of_size hp
    have e2 := not_isEmpty_of_size hp
    have e3 : (t.size == 0) = false := by simp [h0]
    rw [e3]
    clear e3 h0
    go_enter Tryz.func96, Tryz.ntmps96
    go_wp2_with fail
    go_ret
    exact ⟨rfl, (Below.refl _ _).alloc (Nat.le_refl _) _⟩
theorem l06Plain_ref (k n : Int) (t : ByteArray) (r : Int) (W : World) :
    Calls Tryz.prog 96 #[.agg #[.int .i64 k, .int .i64 n, .string t, .int .i64 r], .bool false, .bool false, .bool true] W fun e w' => e = .returned (.bool (n == 0 && t.size == 0)) ∧ Below W.heap.size W w' := by
  obtain ⟨z, hz⟩ : ∃ z, (n == 0) = z := ⟨_, rfl⟩
  rw [hz]
  by_cases h0 : t.size = 0
  · have e1 := nil_of_size h0
    have e2 := isEmpty_of_size h0
    have e3 : (t.size == 0) = true := by simp [h0]
    rw [e3]
    clear e3 h0
    cases z
    all_goals
      go_enter Tryz.func96, Tryz.ntmps96
      go_wp2_with fail
      go_ret
      exact ⟨rfl, (Below.refl _ _).alloc (Nat.le_refl _) _⟩
  · have hp : 0 < t.size := by omega
    have e1 := ne_nil_of_size hp
    have e2 := not_isEmpty_of_size hp
    have e3 : (t.size == 0) = false := by simp [h0]
    rw [e3]
    clear e3 h0
    cases z
    all_goals
      go_enter Tryz.func96, Tryz.ntmps96
      go_wp2_with fail
      go_ret
      exact ⟨rfl, (Below.refl _ _).alloc (Nat.le_refl _) _⟩

set_option maxHeartbeats 4000000 in
theorem spec_ValidValue_any (k n : Int) (t : ByteArray) (r : Int) (W : World) (hs : t.size ≤ maxLen) :
    Calls Tryz.prog 52 #[.agg #[.int .i64 k, .int .i64 n, .string t, .int .i64 r]] W fun e w' => e = .returned (.bool (validV k n t r)) ∧ Below W.heap.size W w' := by
  have HS : Hid (t.size ≤ maxLen) := hs
  clear hs
  unfold validV
  by_cases k1 : k = 1
  · subst k1
    rw [if_pos rfl]
    obtain ⟨x, hx⟩ : ∃ x, (n == 0 && r == 0) = x := ⟨_, rfl⟩
    have HX := Lib.hid hx
    rw [hx]
    clear hx
    by_cases hl : t.size ≤ 200
    · have e1 : decide ((t.size : Int) ≤ 200) = true := by simp; omega
      have e2 : decide (t.size ≤ 200) = true := by simp [hl]
      have e3 : (t.size : Int) ≤ 200 := by omega
      rw [e2]
      clear hl e2
      cases x
      all_goals
        go_enter Tryz.func52, Tryz.ntmps52
        go_wp2_with (go_at_call 96; refine (l06Plain_text _ _ _ _ _).mono ?_; rintro e w1 ⟨rfl, hb⟩; rw [HX.out]; have HB := Lib.hid (((Below.refl _ _).alloc (Nat.le_refl _) _).trans (hb.mono (B' := W.heap.size) (by simp))); obtain ⟨hc, hf⟩ := bcell hb; clear hb)
        go_ret
        exact ⟨rfl, HB.out⟩
    · have e1 : decide ((t.size : Int) ≤ 200) = false := by simp; omega
      have e2 : decide (t.size ≤ 200) = false := by simp; omega
      have e3 : ¬ (t.size : Int) ≤ 200 := by omega
      rw [e2]
      clear hl e2
      cases x
      all_goals
        go_enter Tryz.func52, Tryz.ntmps52
        go_wp2_with (go_at_call 96; refine (l06Plain_text _ _ _ _ _).mono ?_; rintro e w1 ⟨rfl, hb⟩; rw [HX.out]; have HB := Lib.hid (((Below.refl _ _).alloc (Nat.le_refl _) _).trans (hb.mono (B' := W.heap.size) (by simp))); obtain ⟨hc, hf⟩ := bcell hb; clear hb)
        go_ret
        exact ⟨rfl, HB.out⟩
  rw [if_neg k1]
  by_cases k2 : k = 2
  · subst k2
    rw [if_pos rfl]
    obtain ⟨x, hx⟩ : ∃ x, (t.size == 0 && r == 0) = x := ⟨_, rfl⟩
    have HX := Lib.hid hx
    obtain ⟨y, hy⟩ : ∃ y, decide (-1000000000000 ≤ n ∧ n ≤ 1000000000000) = y := ⟨_, rfl⟩
    have HY := Lib.hid hy
    rw [hx, hy]
    clear hx hy k1
    cases x <;> cases y
    all_goals
      go_enter Tryz.func52, Tryz.ntmps52
      go_wp2_with (first
        | (go_at_call 96; refine (l06Plain_num _ _ _ _ _).mono ?_; rintro e w1 ⟨rfl, hb⟩; rw [HX.out]; have HB := Lib.hid (((Below.refl _ _).alloc (Nat.le_refl _) _).trans (hb.mono (B' := W.heap.size) (by simp))); obtain ⟨hc, hf⟩ := bcell hb; clear hb)
        | (go_at_call 50; refine (l00In_any _ _ _ _).mono ?_; rintro e w' ⟨rfl, rfl⟩; rw [HY.out]))
      go_ret
      exact ⟨rfl, HB.out⟩
  rw [if_neg k2]
  by_cases k3 : k = 3
  · subst k3
    rw [if_pos rfl]
    obtain ⟨x, hx⟩ : ∃ x, (n == 0 && r == 0) = x := ⟨_, rfl⟩
    have HX := Lib.hid hx
    obtain ⟨y, hy⟩ : ∃ y, decide (1 ≤ (t.size : Int) ∧ (t.size : Int) ≤ 1200) = y := ⟨_, rfl⟩
    have HY := Lib.hid hy
    rw [hx, hy]
    clear hx hy k1 k2
    cases x <;> cases y
    all_goals
      go_enter Tryz.func52, Tryz.ntmps52
      go_wp2_with (first
        | (go_at_call 96; refine (l06Plain_text _ _ _ _ _).mono ?_; rintro e w1 ⟨rfl, hb⟩; rw [HX.out]; have HB := Lib.hid (((Below.refl _ _).alloc (Nat.le_refl _) _).trans (hb.mono (B' := W.heap.size) (by simp))); obtain ⟨hc, hf⟩ := bcell hb; clear hb)
        | (go_at_call 50; refine (l00In_any _ _ _ _).mono ?_; rintro e w' ⟨rfl, rfl⟩; rw [HY.out]))
      go_ret
      exact ⟨rfl, HB.out⟩
  rw [if_neg k3]
  by_cases k4 : k = 4 ∨ k = 5 ∨ k = 6
  · rw [if_pos k4]
    obtain ⟨x, hx⟩ : ∃ x, (n == 0 && t.size == 0) = x := ⟨_, rfl⟩
    have HX := Lib.hid hx
    obtain ⟨y, hy⟩ : ∃ y, decide (1 ≤ r ∧ r ≤ 1000000) = y := ⟨_, rfl⟩
    have HY := Lib.hid hy
    rw [hx, hy]
    clear hx hy k1 k2 k3
    rcases k4 with rfl | rfl | rfl <;> cases x <;> cases y
    all_goals
      go_enter Tryz.func52, Tryz.ntmps52
      go_wp2_with (first
        | (go_at_call 96; refine (l06Plain_ref _ _ _ _ _).mono ?_; rintro e w1 ⟨rfl, hb⟩; rw [HX.out]; have HB := Lib.hid (((Below.refl _ _).alloc (Nat.le_refl _) _).trans (hb.mono (B' := W.heap.size) (by simp))); obtain ⟨hc, hf⟩ := bcell hb; clear hb)
        | (go_at_call 50; refine (l00In_any _ _ _ _).mono ?_; rintro e w' ⟨rfl, rfl⟩; rw [HY.out]))
      go_ret
      exact ⟨rfl, HB.out⟩
  rw [if_neg k4]
  by_cases k7 : k = 7 ∨ k = 8
  · rw [if_pos k7]
    obtain ⟨x, hx⟩ : ∃ x, (n == 0 && r == 0) = x := ⟨_, rfl⟩
    have HX := Lib.hid hx
    obtain ⟨y, hy⟩ : ∃ y, isNameB t = y := ⟨_, rfl⟩
    have HY := Lib.hid hy
    rw [hx, hy]
    clear hx hy k1 k2 k3 k4
    rcases k7 with rfl | rfl <;> cases x <;> cases y
    all_goals
      go_enter Tryz.func52, Tryz.ntmps52
      go_wp2_with (first
        | (go_at_call 96; refine (l06Plain_text _ _ _ _ _).mono ?_; rintro e w1 ⟨rfl, hb⟩; rw [HX.out]; have HB := Lib.hid (((Below.refl _ _).alloc (Nat.le_refl _) _).trans (hb.mono (B' := W.heap.size) (by simp))); obtain ⟨hc, hf⟩ := bcell hb; clear hb)
        | (go_at_call 51; refine (spec_IsName_any _ _ HS.out).mono ?_; rintro e w' ⟨rfl, rfl⟩; rw [HY.out]))
      go_ret
      exact ⟨rfl, HB.out⟩
  rw [if_neg k7]
  have f1 : (k == 1) = false := by simpa using k1
  have f2 : (k == 2) = false := by simpa using k2
  have f3 : (k == 3) = false := by simpa using k3
  have f4 : (k == 4) = false := by simp; omega
  have f5 : (k == 5) = false := by simp; omega
  have f6 : (k == 6) = false := by simp; omega
  have f7 : (k == 7) = false := by simp; omega
  have f8 : (k == 8) = false := by simp; omega
  clear k1 k2 k3 k4 k7
  go_enter Tryz.func52, Tryz.ntmps52
  go_wp2_with fail
  go_ret
  exact ⟨rfl, (Below.refl _ _).alloc (Nat.le_refl _) _⟩
end Go.Proofs.YtfcpdjfckeoniaaGreatDoor

namespace Go.Proofs.YtfcpdjfckeoniaaGreatDoor
open Go Go.RowKit

def Vl.valid (x : Vl) : Bool := validV x.k x.n x.t x.r
/-- A reference's kind. -/
def Vl.refK (x : Vl) : Prop := 4 ≤ x.k ∧ x.k ≤ 6
def Vl.zero : Vl := ⟨0, 0, ⟨#[]⟩, 0⟩
def AllValid (xs : List Vl) : Prop := ∀ (j : Nat) (x : Vl), xs[j]? = some x → x.valid = true
def Distinct (xs : List Vl) : Prop := ∀ (i j : Nat) (x y : Vl), j < i → xs[i]? = some x → xs[j]? = some y → x ≠ y
def Names (xs : List Vl) : Prop := ∀ (j : Nat) (x : Vl), xs[j]? = some x → x.k = 1 ∧ isNameB x.t = true
/-- An array's fields. -/
def ArrayO (o : Ob) : Prop := o.name.size = 0 ∧ (-1000 ≤ o.low ∧ o.low ≤ 1000) ∧ o.d = Vl.zero ∧ o.keys.length = 0 ∧ o.vals.length ≤ 30 ∧ AllValid o.vals
/-- A table's. -/
def TableO (o : Ob) : Prop := o.name.size = 0 ∧ o.low = 0 ∧ o.d.valid = true ∧ o.keys.length ≤ 30 ∧ o.keys.length = o.vals.length ∧ AllValid o.keys ∧ Distinct o.keys ∧ AllValid o.vals
/-- A record's. -/
def RecordO (o : Ob) : Prop := isNameB o.name = true ∧ o.low = 0 ∧ o.d = Vl.zero ∧ (1 ≤ o.keys.length ∧ o.keys.length ≤ 6) ∧ Names o.keys ∧ o.keys.length = o.vals.length ∧ AllValid o.keys ∧ Distinct o.keys ∧ AllValid o.vals
/-- What ValidObject asks. -/
def ValidO (o : Ob) : Prop := (1 ≤ o.id ∧ o.id ≤ 1000000) ∧ ((o.kind = 1 ∧ ArrayO o) ∨ (o.kind = 2 ∧ TableO o) ∨ (o.kind = 3 ∧ RecordO o))

/-- The values of an object in the order of tracing. -/
def pairsOf : List Vl → List Vl → List Vl
  | k :: ks, v :: vs => k :: v :: pairsOf ks vs
  | _, _ => []
def contents (o : Ob) : List Vl := if o.kind = 2 then pairsOf o.keys o.vals ++ [o.d] else o.vals
/-- A value fits the objects os. -/
def Fits (os : List Ob) (x : Vl) : Prop := x.valid = true ∧ (x.refK → ∃ (j : Nat) (o : Ob), os[j]? = some o ∧ o.id = x.r ∧ o.kind = x.k - 3)
def FitAll (os : List Ob) (xs : List Vl) : Prop := ∀ (j : Nat) (x : Vl), xs[j]? = some x → Fits os x
/-- An object's values fit. -/
def RefsFit (os : List Ob) (o : Ob) : Prop := FitAll os o.keys ∧ FitAll os o.vals ∧ (o.kind = 2 → Fits os o.d)
def Rising (os : List Ob) : Prop := ∀ (j : Nat) (a b : Ob), os[j]? = some a → os[j + 1]? = some b → a.id < b.id
/-- What ValidHeap asks. -/
def ValidH (nx : Int) (os : List Ob) : Prop :=
  (0 ≤ nx ∧ nx ≤ 1000000) ∧ os.length ≤ 40 ∧ (∀ (j : Nat) (o : Ob), os[j]? = some o → ValidO o ∧ o.id ≤ nx) ∧ Rising os ∧ (∀ (j : Nat) (o : Ob), os[j]? = some o → RefsFit os o)

theorem zero_iff {x : Vl} : x = Vl.zero ↔ x.k = 0 ∧ x.n = 0 ∧ x.t.size = 0 ∧ x.r = 0 := by
  constructor
  · rintro rfl
    exact ⟨rfl, rfl, rfl, rfl⟩
  · obtain ⟨k, n, t, r⟩ := x
    rintro ⟨h0, h1, h2, h3⟩
    dsimp only at h0 h1 h2 h3
    subst h0 h1 h3
    have e : t = ⟨#[]⟩ := by
      obtain ⟨d⟩ := t
      exact congrArg ByteArray.mk (Array.eq_empty_of_size_eq_zero h2)
    rw [e]
    rfl

theorem rising_lt {os : List Ob} (h : Rising os) : ∀ {j i : Nat} {a b : Ob}, i < j → os[i]? = some a → os[j]? = some b → a.id < b.id := by
  intro j
  induction j with
  | zero => intro i a b hi; omega
  | succ j ih =>
    intro i a b hi ha hb
    have hl : j + 1 < os.length := (List.getElem?_eq_some_iff.1 hb).1
    have hj : os[j]? = some os[j] := List.getElem?_eq_getElem (by omega)
    have h1 := h j _ b hj hb
    by_cases e : i = j
    · subst e
      rw [hj, Option.some.injEq] at ha
      subst ha
      exact h1
    · have := ih (by omega) ha hj
      omega
/-- The numbers of rising objects are different. -/
theorem rising_inj {os : List Ob} (h : Rising os) {j i : Nat} {a b : Ob} (ha : os[i]? = some a) (hb : os[j]? = some b) (e : a.id = b.id) : i = j := by
  rcases Nat.lt_trichotomy i j with hl | hl | hl
  · have := rising_lt h hl ha hb; omega
  · exact hl
  · have := rising_lt h hl hb ha; omega

theorem mem_pairs : ∀ {ks vs : List Vl} {x : Vl}, ks.length = vs.length → (x ∈ pairsOf ks vs ↔ x ∈ ks ∨ x ∈ vs)
  | [], [], x, _ => by simp [pairsOf]
  | k :: ks, v :: vs, x, h => by
    have ih := mem_pairs (ks := ks) (vs := vs) (x := x) (by simpa using h)
    simp only [pairsOf, List.mem_cons, ih]
    constructor
    · rintro (h | h | h | h) <;> simp [h]
    · rintro ((h | h) | h | h) <;> simp [h]
theorem fitAll_mem {os : List Ob} {xs : List Vl} : FitAll os xs ↔ ∀ x ∈ xs, Fits os x := by
  constructor
  · intro h x hx
    obtain ⟨j, hj⟩ := List.getElem?_of_mem hx
    exact h j x hj
  · intro h j x hx
    exact h x (List.mem_of_getElem? hx)
theorem allValid_mem {xs : List Vl} : AllValid xs ↔ ∀ x ∈ xs, x.valid = true := by
  constructor
  · intro h x hx
    obtain ⟨j, hj⟩ := List.getElem?_of_mem hx
    exact h j x hj
  · intro h j x hx
    exact h x (List.mem_of_getElem? hx)
/-- A string fits whatever the objects are. -/
theorem fits_string {os : List Ob} {x : Vl} (hv : x.valid = true) (hk : x.k = 1) : Fits os x := ⟨hv, fun h => by have := h.1; omega⟩
/-- The values of a valid object fit just if those in the order of tracing do. -/
theorem refsFit_iff {os : List Ob} {o : Ob} (h : ValidO o) : RefsFit os o ↔ FitAll os (contents o) := by
  obtain ⟨_, h1 | h2 | h3⟩ := h
  · obtain ⟨hk, _, _, _, hks, _⟩ := h1
    have e : o.keys = [] := List.length_eq_zero_iff.1 hks
    unfold RefsFit contents
    rw [if_neg (by omega), e]
    constructor
    · exact fun h => h.2.1
    · exact fun h => ⟨fun j x hx => by simp at hx, h, fun h2 => by omega⟩
  · obtain ⟨hk, _, _, _, _, hl, _⟩ := h2
    unfold RefsFit contents
    rw [if_pos hk]
    simp only [fitAll_mem, List.mem_append, mem_pairs hl, List.mem_singleton]
    constructor
    · rintro ⟨a, b, c⟩ x ((hx | hx) | rfl)
      · exact a x hx
      · exact b x hx
      · exact c hk
    · exact fun h => ⟨fun x hx => h x (.inl (.inl hx)), fun x hx => h x (.inl (.inr hx)), fun _ => h _ (.inr rfl)⟩
  · obtain ⟨hk, _, _, _, _, hn, _, hv, _⟩ := h3
    unfold RefsFit contents
    rw [if_neg (by omega)]
    constructor
    · exact fun h => h.2.1
    · exact fun h => ⟨fun j x hx => fits_string (hv j x hx) (hn j x hx).1, h, fun h2 => by omega⟩
end Go.Proofs.YtfcpdjfckeoniaaGreatDoor

namespace Go.Proofs.YtfcpdjfckeoniaaGreatDoor
open Go Go.RowKit Go.Sort

theorem textValue_any (k : Int) (s : ByteArray) (W : World) :
    Calls Tryz.prog 101 #[.int .i64 k, .string s] W fun e w' => e = .returned (.agg #[.int .i64 k, .int .i64 0, .string s, .int .i64 0]) ∧ Below W.heap.size W w' := by
  go_enter Tryz.func101, Tryz.ntmps101
  go_wp2
  exact bodyPost_ret (v := .agg #[.int .i64 k, .int .i64 0, .string s, .int .i64 0]) (by simp [results, Tryz.results101, go_sem]) rfl
    ⟨rfl, by repeat (first | exact Below.refl _ _ | refine Below.setCell ?_ (by first | (simp; done) | (simp; omega)) _ | refine Below.alloc ?_ (by first | (simp; done) | (simp; omega)) _)⟩
/-- A value's four cells. -/
abbrev V4 (w : World) (g : Nat) (k n : Int) (t : ByteArray) (r : Int) : Prop := w.cell? ⟨g, 0, none⟩ = some (.int .i64 k) ∧ w.cell? ⟨g, 1, none⟩ = some (.int .i64 n) ∧ w.cell? ⟨g, 2, none⟩ = some (.string t) ∧ w.cell? ⟨g, 3, none⟩ = some (.int .i64 r)
theorem v4_keep {wr wx w1 : World} {g : Nat} {k n : Int} {t : ByteArray} {r : Int} (hg : g < wr.heap.size) (h : V4 wx g k n t r ∧ Below wr.heap.size wr wx) (hb : Below wx.heap.size wx w1) :
    V4 w1 g k n t r ∧ Below wr.heap.size wr w1 := by
  have l := Nat.lt_of_lt_of_le hg h.2.size
  exact ⟨⟨(hb.cell (p := ⟨g, 0, none⟩) l).trans h.1.1, (hb.cell (p := ⟨g, 1, none⟩) l).trans h.1.2.1, (hb.cell (p := ⟨g, 2, none⟩) l).trans h.1.2.2.1, (hb.cell (p := ⟨g, 3, none⟩) l).trans h.1.2.2.2⟩, h.2.trans (hb.mono h.2.size)⟩
theorem v4_new (W : World) (k n : Int) (t : ByteArray) (r : Int) (T : TypeId) : V4 (W.alloc (.cells #[.int .i64 k, .int .i64 n, .string t, .int .i64 r] T)) W.heap.size k n t r := by
  refine ⟨?_, ?_, ?_, ?_⟩ <;> simp
theorem v4_below {w w1 : World} {g : Nat} {k n : Int} {t : ByteArray} {r : Int} (h : V4 w g k n t r) (hg : g < w.heap.size) (hb : Below w.heap.size w w1) : V4 w1 g k n t r :=
  ⟨(hb.cell (p := ⟨g, 0, none⟩) hg).trans h.1, (hb.cell (p := ⟨g, 1, none⟩) hg).trans h.2.1, (hb.cell (p := ⟨g, 2, none⟩) hg).trans h.2.2.1, (hb.cell (p := ⟨g, 3, none⟩) hg).trans h.2.2.2⟩
end Go.Proofs.YtfcpdjfckeoniaaGreatDoor

namespace Go.Proofs.YtfcpdjfckeoniaaGreatDoor
open Go Go.RowKit Go.Sort

theorem spec_SameValue_any (k n : Int) (t : ByteArray) (r k' n' : Int) (t' : ByteArray) (r' : Int) (W : World) :
    Calls Tryz.prog 162 #[.agg #[.int .i64 k, .int .i64 n, .string t, .int .i64 r], .agg #[.int .i64 k', .int .i64 n', .string t', .int .i64 r']] W fun e w' => e = .returned (.bool (sameV k n t r k' n' t' r')) ∧ Below W.heap.size W w' := by
  unfold sameV
  obtain ⟨z1, h1⟩ : ∃ z, (k == k') = z := ⟨_, rfl⟩
  obtain ⟨z2, h2⟩ : ∃ z, (n == n') = z := ⟨_, rfl⟩
  obtain ⟨z3, h3⟩ : ∃ z, (t.toList == t'.toList) = z := ⟨_, rfl⟩
  obtain ⟨z4, h4⟩ : ∃ z, (r == r') = z := ⟨_, rfl⟩
  rw [h1, h2, h3, h4]
  cases z1
  · go_enter Tryz.func162, Tryz.ntmps162
    go_wp2_with fail
    go_ret
    exact ⟨rfl, ((Below.refl _ _).alloc (Nat.le_refl _) _).alloc (by simp) _⟩
  cases z2
  · go_enter Tryz.func162, Tryz.ntmps162
    go_wp2_with fail
    go_ret
    exact ⟨rfl, ((Below.refl _ _).alloc (Nat.le_refl _) _).alloc (by simp) _⟩
  cases z3
  · go_enter Tryz.func162, Tryz.ntmps162
    go_wp2_with fail
    go_ret
    exact ⟨rfl, ((Below.refl _ _).alloc (Nat.le_refl _) _).alloc (by simp) _⟩
  cases z4
  all_goals
    go_enter Tryz.func162, Tryz.ntmps162
    go_wp2_with fail
    go_ret
    exact ⟨rfl, ((Below.refl _ _).alloc (Nat.le_refl _) _).alloc (by simp) _⟩
end Go.Proofs.YtfcpdjfckeoniaaGreatDoor

namespace Go.Proofs.YtfcpdjfckeoniaaGreatDoor
open Go Go.RowKit Go.Sort

set_option maxRecDepth 100000 in
theorem l07ValidValues_any (A : Option Addr) (n c : Nat) (xs : List Vl) (most : Int) (W : World) (hr : VI W W.heap.size A n xs) :
    Calls Tryz.prog 140 #[.slice A n c, .int .i64 most] W fun e w' => e = .returned (.bool (tt ((xs.length : Int) ≤ most ∧ AllValid xs))) ∧ Below W.heap.size W w' := by
  have HR := Lib.hid hr
  have hn := hr.2.1
  have HN := Lib.hid hr.1
  unfold maxLen at hn
  clear hr
  by_cases hl : (n : Int) ≤ most
  · have HL := Lib.hid hl
    obtain ⟨P, hP⟩ : ∃ P, tt ((xs.length : Int) ≤ most ∧ AllValid xs) = P := ⟨_, rfl⟩
    have HP := Lib.hid hP
    rw [hP]
    clear hP
    go_enter Tryz.func140, Tryz.ntmps140
    go_wp2_with fail
    go_loopw [5] (fun i wr => ∃ k : Nat, k ≤ n ∧ i = .int .i64 k ∧ Hid (Below W.heap.size W wr) ∧ Hid (∀ (j : Nat) (x : Vl), j < k → xs[j]? = some x → x.valid = true)) (fun i _ => n - (intOf i).toNat)
    case atStart => exact ⟨0, Nat.zero_le _, rfl, Below.refl _ _, fun j x hj => absurd hj (by omega)⟩
    case round =>
      obtain ⟨k, hk, rfl, HW, HV⟩ := hrel
      by_cases hlt : k < n
      · obtain ⟨b, off, x, rfl, hg, hx, ⟨q0, q1, q2, q3⟩, hxs⟩ := (HR.out.below HW.out).at_ hlt
        have HX := Lib.hid hx
        have HXS := Lib.hid hxs
        obtain ⟨v, hv⟩ : ∃ v, x.valid = v := ⟨_, rfl⟩
        have HVX := Lib.hid hv
        have b0 : (0 : Int) ≤ (k : Int) := by omega
        have b1 : (k : Int) < (n : Int) := by omega
        clear hx hxs hg hv
        cases v
        · have HF : Hid (P = false) := by
            show _ = _
            rw [← HP.out]
            exact tt_false fun h => by have := h.2 k x HX.out; rw [HVX.out] at this; cases this
          go_wp2_with (go_at_call 52; refine (spec_ValidValue_any _ _ _ _ _ HXS.out).mono ?_; rintro e w1 ⟨rfl, hb⟩; rw [show validV x.k x.n x.t x.r = false from HVX.out]; have HW1 : Hid (Below W.heap.size W w1) := HW.out.trans (hb.mono HW.out.size); clear hb)
          go_ret
          exact ⟨by rw [HF.out]; rfl, HW1.out⟩
        · go_wp2_with (go_at_call 52; refine (spec_ValidValue_any _ _ _ _ _ HXS.out).mono ?_; rintro e w1 ⟨rfl, hb⟩; rw [show validV x.k x.n x.t x.r = true from HVX.out]; have HW1 : Hid (Below W.heap.size W w1) := HW.out.trans (hb.mono HW.out.size); clear hb)
          go_roundw
          case rel =>
            refine ⟨k + 1, by omega, by go_num, HW1, fun j y hj hy => ?_⟩
            by_cases e : j = k
            · subst e
              rw [HX.out, Option.some.injEq] at hy
              subst hy
              exact HVX.out
            · exact HV.out j y (by omega) hy
          case measure => simp [intOf]; omega
      · have hkn : k = n := by omega
        have HT : Hid (P = true) := by
          show _ = _
          rw [← HP.out]
          refine tt_true ⟨by rw [HN.out]; exact HL.out, fun j x hx => HV.out j x ?_ hx⟩
          have := (List.getElem?_eq_some_iff.1 hx).1
          have := HN.out
          omega
        go_wp2_with fail
        go_ret
        exact ⟨by rw [HT.out]; rfl, HW.out⟩
  · have e : tt ((xs.length : Int) ≤ most ∧ AllValid xs) = false := tt_false fun h => hl (by have := h.1; rw [HN.out] at this; exact this)
    have h2 : most < (n : Int) := by omega
    rw [e]
    clear e hl
    go_enter Tryz.func140, Tryz.ntmps140
    go_wp2_with fail
    go_ret
    exact ⟨rfl, Below.refl _ _⟩
end Go.Proofs.YtfcpdjfckeoniaaGreatDoor

namespace Go.Proofs.YtfcpdjfckeoniaaGreatDoor
open Go Go.RowKit Go.Sort

set_option maxHeartbeats 1000000 in
set_option maxRecDepth 100000 in
theorem l07Distinct_any (A : Option Addr) (n c : Nat) (xs : List Vl) (W : World) (hr : VI W W.heap.size A n xs) :
    Calls Tryz.prog 141 #[.slice A n c] W fun e w' => e = .returned (.bool (tt (Distinct xs))) ∧ Below W.heap.size W w' := by
  have HR := Lib.hid hr
  have hn := hr.2.1
  have HN := Lib.hid hr.1
  unfold maxLen at hn
  clear hr
  obtain ⟨P, hP⟩ : ∃ P, tt (Distinct xs) = P := ⟨_, rfl⟩
  have HP := Lib.hid hP
  rw [hP]
  clear hP
  go_enter Tryz.func141, Tryz.ntmps141
  go_wp2_with fail
  go_loopw [3] (fun i wr => ∃ k : Nat, k ≤ n ∧ i = .int .i64 k ∧ Hid (Below W.heap.size W wr) ∧ Hid (∀ (i j : Nat) (x y : Vl), i < k → j < i → xs[i]? = some x → xs[j]? = some y → x ≠ y)) (fun i _ => n - (intOf i).toNat)
  case atStart => exact ⟨0, Nat.zero_le _, rfl, Below.refl _ _, fun i j x y hi => absurd hi (by omega)⟩
  case round =>
    obtain ⟨k, hk, rfl, HW, HV⟩ := hrel
    by_cases hlt : k < n
    · have b0 : (0 : Int) ≤ (k : Int) := by omega
      have b1 : (k : Int) < (n : Int) := by omega
      obtain ⟨b, off, x, rfl, hg, hx, hc, _⟩ := HR.out.at_ hlt
      have HX := Lib.hid hx
      have HC := Lib.hid hc
      have HG := Lib.hid hg
      clear hx hc hg
      go_wp2_with fail
      go_loopw [4] (fun q wq => ∃ m : Nat, m ≤ k ∧ q = .int .i64 m ∧ Hid (Below W.heap.size W wq) ∧ Hid (∀ (j : Nat) (y : Vl), j < m → xs[j]? = some y → x ≠ y)) (fun q _ => k - (intOf q).toNat)
      case atStart => exact ⟨0, Nat.zero_le _, rfl, HW, fun j y hj => absurd hj (by omega)⟩
      case round =>
        obtain ⟨m, hm, rfl, HW2, HV2⟩ := hrel
        by_cases hlm : m < k
        · obtain ⟨b', off', y, he, hg', hy, hc', _⟩ := HR.out.at_ (show m < n by omega)
          simp only [Option.some.injEq, Addr.mk.injEq, and_true] at he
          obtain ⟨rfl, rfl⟩ := he
          have HY := Lib.hid hy
          obtain ⟨p0, p1, p2, p3⟩ := HC.out.below HW2.out HG.out
          obtain ⟨q0, q1, q2, q3⟩ := hc'.below HW2.out HG.out
          have m0 : (0 : Int) ≤ (m : Int) := by omega
          have m1 : (m : Int) < (k : Int) := by omega
          have m2 : (m : Int) < (n : Int) := by omega
          obtain ⟨z, hz⟩ : ∃ z, sameV x.k x.n x.t x.r y.k y.n y.t y.r = z := ⟨_, rfl⟩
          have HZ := Lib.hid hz
          have HB : Hid (b < wr.heap.size) := Nat.lt_of_lt_of_le HG.out HW2.out.size
          obtain ⟨xk, xn, xt, xr⟩ := x
          obtain ⟨yk, yn, yt, yr⟩ := y
          dsimp only at p0 p1 p2 p3 q0 q1 q2 q3
          clear hy hc' hg' hz
          cases z
          · go_wp2_with fail
            go_region_held3 (fun w' => Two4 w' b b (off + k * 4) (off + m * 4) xk xn xt xr yk yn yt yr ∧ Below wr.heap.size wr w')
              (first | (exact ⟨⟨⟨p0, p1, p2, p3⟩, ⟨q0, q1, q2, q3⟩⟩, (Below.refl _ _).drew⟩) | (go_split_ands; exact two4_keep HB.out HB.out ⟨⟨⟨by assumption, by assumption, by assumption, by assumption⟩, ⟨by assumption, by assumption, by assumption, by assumption⟩⟩, by assumption⟩ hb) | go_keep)
              ((go_at_call 162; refine (spec_SameValue_any _ _ _ _ _ _ _ _ _).mono ?_; rintro e w1 ⟨rfl, hb⟩; rw [show sameV xk xn xt xr yk yn yt yr = false from HZ.out]))
            go_wp2_with fail
            go_split_ands
            go_roundw
            case rel =>
              refine ⟨m + 1, by omega, by go_num, HW2.out.trans (Below.mono (by assumption) HW2.out.size), fun j u hj hu => ?_⟩
              by_cases e : j = m
              · subst e
                rw [HY.out, Option.some.injEq] at hu
                subst hu
                exact sameV_false HZ.out
              · exact HV2.out j u (by omega) hu
            case measure => simp [intOf]; omega
          · have HF : Hid (P = false) := by
              show _ = _
              rw [← HP.out]
              exact tt_false fun h => h k m _ _ hlm HX.out HY.out ((sameV_iff _ _).1 HZ.out)
            go_wp2_with fail
            go_region_held3 (fun w' => Two4 w' b b (off + k * 4) (off + m * 4) xk xn xt xr yk yn yt yr ∧ Below wr.heap.size wr w')
              (first | (exact ⟨⟨⟨p0, p1, p2, p3⟩, ⟨q0, q1, q2, q3⟩⟩, (Below.refl _ _).drew⟩) | (go_split_ands; exact two4_keep HB.out HB.out ⟨⟨⟨by assumption, by assumption, by assumption, by assumption⟩, ⟨by assumption, by assumption, by assumption, by assumption⟩⟩, by assumption⟩ hb) | go_keep)
              ((go_at_call 162; refine (spec_SameValue_any _ _ _ _ _ _ _ _ _).mono ?_; rintro e w1 ⟨rfl, hb⟩; rw [show sameV xk xn xt xr yk yn yt yr = true from HZ.out]))
            go_wp2_with fail
            go_split_ands
            go_ret
            exact ⟨by rw [HF.out]; rfl, HW2.out.trans (Below.mono (by assumption) HW2.out.size)⟩
        · have hkm : m = k := by omega
          subst hkm
          go_wp2_with fail
          go_roundw
          case rel =>
            refine ⟨m + 1, by omega, by go_num, HW2, fun i j u v hi hj hu hv => ?_⟩
            by_cases e : i = m
            · subst e
              rw [HX.out, Option.some.injEq] at hu
              subst hu
              exact HV2.out j v hj hv
            · exact HV.out i j u v (by omega) hj hu hv
          case measure => simp [intOf]; omega
    · have hkn : k = n := by omega
      have HT : Hid (P = true) := by
        show _ = _
        rw [← HP.out]
        refine tt_true fun i j x y hj hx hy => HV.out i j x y ?_ hj hx hy
        have := (List.getElem?_eq_some_iff.1 hx).1
        have := HN.out
        omega
      go_wp2_with fail
      go_ret
      exact ⟨by rw [HT.out]; rfl, HW.out⟩
end Go.Proofs.YtfcpdjfckeoniaaGreatDoor

namespace Go.Proofs.YtfcpdjfckeoniaaGreatDoor
open Go Go.RowKit Go.Sort

theorem one_new (W : World) (T : TypeId) (c : Array Value) (X : World) (e : X = W.alloc (.cells c T)) : RW T X W.heap.size c ∧ Below W.heap.size W X ∧ W.heap.size < X.heap.size := by
  subst e
  exact ⟨RW.new W c T, below_alloc _ _, lt_alloc _ _⟩

set_option maxHeartbeats 2000000 in
set_option maxRecDepth 100000 in
theorem l07FieldNames_any (A : Option Addr) (n c : Nat) (xs : List Vl) (W : World) (hr : VI W W.heap.size A n xs) :
    Calls Tryz.prog 142 #[.slice A n c] W fun e w' => e = .returned (.bool (tt (Names xs ∧ 1 ≤ xs.length ∧ ((xs.length : Int) ≤ 6 ∧ AllValid xs) ∧ Distinct xs))) ∧ Below W.heap.size W w' := by
  have HR := Lib.hid hr
  have hn := hr.2.1
  have HN := Lib.hid hr.1
  unfold maxLen at hn
  clear hr
  obtain ⟨P, hP⟩ : ∃ P, tt (Names xs ∧ 1 ≤ xs.length ∧ ((xs.length : Int) ≤ 6 ∧ AllValid xs) ∧ Distinct xs) = P := ⟨_, rfl⟩
  have HP := Lib.hid hP
  rw [hP]
  clear hP
  obtain ⟨V, hV⟩ : ∃ V, tt ((xs.length : Int) ≤ 6 ∧ AllValid xs) = V := ⟨_, rfl⟩
  have HVV := Lib.hid hV
  obtain ⟨D, hD⟩ : ∃ D, tt (Distinct xs) = D := ⟨_, rfl⟩
  have HDD := Lib.hid hD
  clear hV hD
  go_enter Tryz.func142, Tryz.ntmps142
  go_wp2_with fail
  go_loopw [3] (fun i wr => ∃ k : Nat, k ≤ n ∧ i = .int .i64 k ∧ Hid (Below W.heap.size W wr) ∧ Hid (∀ (j : Nat) (x : Vl), j < k → xs[j]? = some x → x.k = 1 ∧ isNameB x.t = true)) (fun i _ => n - (intOf i).toNat)
  case atStart => exact ⟨0, Nat.zero_le _, rfl, Below.refl _ _, fun j x hj => absurd hj (by omega)⟩
  case round =>
    obtain ⟨k, hk, rfl, HW, HV⟩ := hrel
    by_cases hlt : k < n
    · obtain ⟨b, off, x, rfl, hg, hx, ⟨q0, q1, q2, q3⟩, hxs⟩ := (HR.out.below HW.out).at_ hlt
      have HX := Lib.hid hx
      have HXS := Lib.hid hxs
      have b0 : (0 : Int) ≤ (k : Int) := by omega
      have b1 : (k : Int) < (n : Int) := by omega
      obtain ⟨xk, xn, xt, xr⟩ := x
      dsimp only at q0 q1 q2 q3 hxs
      clear hx hxs hg
      by_cases h1 : xk = 1
      · subst h1
        obtain ⟨z, hz⟩ : ∃ z, isNameB xt = z := ⟨_, rfl⟩
        have HZ := Lib.hid hz
        clear hz
        cases z
        · have HF : Hid (P = false) := by
            show _ = _
            rw [← HP.out]
            exact tt_false fun h => by have := (h.1 k _ HX.out).2; rw [HZ.out] at this; cases this
          go_wp2_with (go_at_call 51; refine (spec_IsName_any _ _ HXS.out).mono ?_; rintro e w1 ⟨rfl, rfl⟩; rw [HZ.out])
          go_ret
          exact ⟨by rw [HF.out]; rfl, HW.out⟩
        · go_wp2_with (go_at_call 51; refine (spec_IsName_any _ _ HXS.out).mono ?_; rintro e w1 ⟨rfl, rfl⟩; rw [HZ.out])
          go_roundw
          case rel =>
            refine ⟨k + 1, by omega, by go_num, HW, fun j y hj hy => ?_⟩
            by_cases e : j = k
            · subst e
              rw [HX.out, Option.some.injEq] at hy
              subst hy
              exact ⟨rfl, HZ.out⟩
            · exact HV.out j y (by omega) hy
          case measure => simp [intOf]; omega
      · have HF : Hid (P = false) := by
          show _ = _
          rw [← HP.out]
          exact tt_false fun h => h1 (h.1 k _ HX.out).1
        go_wp2_with fail
        go_ret
        exact ⟨by rw [HF.out]; rfl, HW.out⟩
    · have hkn : k = n := by omega
      have HNM : Hid (Names xs) := by
        intro j x hx
        refine HV.out j x ?_ hx
        have := (List.getElem?_eq_some_iff.1 hx).1
        have := HN.out
        omega
      by_cases h1 : 1 ≤ n
      · have h1' : (1 : Int) ≤ (n : Int) := by omega
        have HPE : Hid (P = (V && D)) := by
          show _ = _
          rw [← HP.out, ← HVV.out, ← HDD.out, Bool.eq_iff_iff]
          simp only [Bool.and_eq_true, tt_iff]
          exact ⟨fun h => ⟨h.2.2.1, h.2.2.2⟩, fun h => ⟨HNM.out, by rw [HN.out]; exact h1, h.1, h.2⟩⟩
        cases V
        · go_wp2_with (go_at_call 140; refine (l07ValidValues_any A n c xs 6 _ (HR.out.go HW.out)).mono ?_; rintro e w1 ⟨rfl, hb⟩; rw [HVV.out]; have HW1 := Lib.hid (HW.out.trans (hb.mono HW.out.size)); clear hb)
          go_ret
          exact ⟨by rw [HPE.out]; rfl, HW1.out⟩
        · cases D
          all_goals
            go_wp2_with (first
              | (go_at_call 140; refine (l07ValidValues_any A n c xs 6 _ (HR.out.go HW.out)).mono ?_; rintro e w1 ⟨rfl, hb⟩; rw [HVV.out]; have HW1 := Lib.hid (HW.out.trans (hb.mono HW.out.size)); clear hb)
              | (go_at_call 141; refine (l07Distinct_any A n c xs _ (HR.out.go HW1.out)).mono ?_; rintro e w2 ⟨rfl, hb⟩; rw [HDD.out]; have HW2 := Lib.hid (HW1.out.trans (hb.mono HW1.out.size)); clear hb))
            go_ret
            exact ⟨by rw [HPE.out]; rfl, HW2.out⟩
      · have HF : Hid (P = false) := by
          show _ = _
          rw [← HP.out]
          exact tt_false fun h => h1 (by have := h.2.1; rw [HN.out] at this; exact this)
        have h1' : ¬ (1 : Int) ≤ (n : Int) := by omega
        have h1'' : (n : Int) < 1 := by omega
        go_wp2_with fail
        go_ret
        exact ⟨by rw [HF.out]; rfl, HW.out⟩
end Go.Proofs.YtfcpdjfckeoniaaGreatDoor

namespace Go.Proofs.YtfcpdjfckeoniaaGreatDoor
open Go Go.RowKit Go.Sort

/-- A heap behind a pointer. -/
def HPt (w : World) (g : Nat) (nx : Int) (A : Option Addr) (n c : Nat) (os : List Ob) : Prop := w.cell? ⟨g, 0, none⟩ = some (.int .i64 nx) ∧ w.cell? ⟨g, 1, none⟩ = some (.slice A n c) ∧ OI w w.heap.size A n os ∧ g < w.heap.size
theorem HPt.go {w w' : World} {g : Nat} {nx : Int} {A : Option Addr} {n c : Nat} {os : List Ob} (h : HPt w g nx A n c os) (hb : Below w.heap.size w w') : HPt w' g nx A n c os :=
  ⟨(hb.cell (p := ⟨g, 0, none⟩) h.2.2.2).trans h.1, (hb.cell (p := ⟨g, 1, none⟩) h.2.2.2).trans h.2.1, h.2.2.1.go hb, Nat.lt_of_lt_of_le h.2.2.2 hb.size⟩
/-- What l07Find answers. -/
def Found (os : List Ob) (id : Int) (f : Int) : Prop :=
  (∃ (k : Nat) (o : Ob), os[k]? = some o ∧ o.id = id ∧ f = (k : Int)) ∨ ((∀ (j : Nat) (o : Ob), os[j]? = some o → o.id ≠ id) ∧ f = -1)

set_option maxHeartbeats 1000000 in
set_option maxRecDepth 100000 in
theorem l07Find_any (g : Nat) (nx : Int) (A : Option Addr) (n c : Nat) (os : List Ob) (id : Int) (W : World) (h : HPt W g nx A n c os) :
    Calls Tryz.prog 146 #[.pointer (some ⟨g, 0, none⟩), .int .i64 id] W fun e w' => ∃ f, e = .returned (.int .i64 f) ∧ Hid (Found os id f) ∧ W = w' := by
  have H := Lib.hid h
  have hn := h.2.2.1.2.1
  have HN := Lib.hid h.2.2.1.1
  have s1 := h.2.1
  unfold maxLen at hn
  clear h
  go_enter Tryz.func146, Tryz.ntmps146
  go_wp2_with fail
  go_loopw [5] (fun i wr => ∃ k : Nat, k ≤ n ∧ i = .int .i64 k ∧ W = wr ∧ Hid (∀ (j : Nat) (o : Ob), j < k → os[j]? = some o → o.id ≠ id)) (fun i _ => n - (intOf i).toNat)
  case atStart => exact ⟨0, Nat.zero_le _, rfl, rfl, fun j x hj => absurd hj (by omega)⟩
  case round =>
    obtain ⟨k, hk, rfl, rfl, HV⟩ := hrel
    by_cases hlt : k < n
    · obtain ⟨b, off, o, l, rfl, hg, hx, ⟨q0, _⟩, _⟩ := H.out.2.2.1.at_ hlt
      have HX := Lib.hid hx
      have b0 : (0 : Int) ≤ (k : Int) := by omega
      have b1 : (k : Int) < (n : Int) := by omega
      clear hx hg
      by_cases he : o.id = id
      · have HE := Lib.hid he
        obtain ⟨y, hy⟩ : ∃ y, (o.id == id) = y := ⟨_, rfl⟩
        have hy2 : y = true := by rw [← hy]; simp [he]
        subst hy2
        clear he
        go_wp2_with fail
        go_ret
        exact ⟨_, rfl, Lib.hid (.inl ⟨k, o, HX.out, HE.out, rfl⟩), rfl⟩
      · have HE := Lib.hid he
        obtain ⟨y, hy⟩ : ∃ y, (o.id == id) = y := ⟨_, rfl⟩
        have hy2 : y = false := by rw [← hy]; simp [he]
        subst hy2
        clear he
        go_wp2_with fail
        go_roundw
        case rel =>
          refine ⟨k + 1, by omega, by go_num, by trivial, fun j y hj hy => ?_⟩
          by_cases e : j = k
          · subst e
            rw [HX.out, Option.some.injEq] at hy
            subst hy
            exact HE.out
          · exact HV.out j y (by omega) hy
        case measure => simp [intOf]; omega
    · have hkn : k = n := by omega
      have HA : Hid (∀ (j : Nat) (o : Ob), os[j]? = some o → o.id ≠ id) := by
        intro j x hx
        refine HV.out j x ?_ hx
        have := (List.getElem?_eq_some_iff.1 hx).1
        have := HN.out
        omega
      go_wp2_with fail
      go_ret
      exact ⟨_, rfl, Lib.hid (.inr ⟨HA.out, rfl⟩), rfl⟩

theorem l07IsRef_any (x : Vl) (W : World) :
    Calls Tryz.prog 145 #[x.ag] W fun e w' => e = .returned (.bool (decide (4 ≤ x.k ∧ x.k ≤ 6))) ∧ Below W.heap.size W w' := by
  obtain ⟨k, n, t, r⟩ := x
  obtain ⟨z, hz⟩ : ∃ z, decide (4 ≤ k ∧ k ≤ 6) = z := ⟨_, rfl⟩
  have HZ := Lib.hid hz
  show Calls Tryz.prog 145 #[.agg #[.int .i64 k, .int .i64 n, .string t, .int .i64 r]] W fun e w' => e = .returned (.bool (decide (4 ≤ k ∧ k ≤ 6))) ∧ Below W.heap.size W w'
  rw [hz]
  clear hz
  go_enter Tryz.func145, Tryz.ntmps145
  go_wp2_with (go_at_call 50; refine (l00In_any _ _ _ _).mono ?_; rintro e w' ⟨rfl, rfl⟩; rw [HZ.out])
  go_ret
  exact ⟨rfl, (Below.refl _ _).alloc (Nat.le_refl _) _⟩

theorem l07ObjectKind_any (k : Int) (h : 4 ≤ k ∧ k ≤ 6) (W : World) :
    Calls Tryz.prog 147 #[.int .i64 k] W fun e w' => e = .returned (.int .i64 (k - 3)) ∧ W = w' := by
  obtain rfl | rfl | rfl : k = 4 ∨ k = 5 ∨ k = 6 := by omega
  all_goals
    go_enter Tryz.func147, Tryz.ntmps147
    go_wp2
    all_goals go_ret
    all_goals exact ⟨rfl, rfl⟩

set_option maxHeartbeats 2000000 in
set_option maxRecDepth 100000 in
theorem l07Fits_any (g : Nat) (nx : Int) (A : Option Addr) (n c : Nat) (os : List Ob) (x : Vl) (W : World) (h : HPt W g nx A n c os) (hr : Rising os) (hx : x.t.size ≤ maxLen) :
    Calls Tryz.prog 117 #[.pointer (some ⟨g, 0, none⟩), x.ag] W fun e w' => e = .returned (.bool (tt (Fits os x))) ∧ Below W.heap.size W w' := by
  obtain ⟨P, hP⟩ : ∃ P, tt (Fits os x) = P := ⟨_, rfl⟩
  have HP := Lib.hid hP
  rw [hP]
  clear hP
  obtain ⟨k, m, t, r⟩ := x
  obtain ⟨v, hv⟩ : ∃ v, validV k m t r = v := ⟨_, rfl⟩
  have HV := Lib.hid hv
  obtain ⟨y, hy⟩ : ∃ y, decide (4 ≤ k ∧ k ≤ 6) = y := ⟨_, rfl⟩
  have HY := Lib.hid hy
  have H := Lib.hid h
  have HR := Lib.hid hr
  have HX := Lib.hid hx
  have HC := Lib.hid (one_new W 36 #[.int .i64 k, .int .i64 m, .string t, .int .i64 r])
  clear h hr hx hv
  show Calls Tryz.prog 117 #[.pointer (some ⟨g, 0, none⟩), .agg #[.int .i64 k, .int .i64 m, .string t, .int .i64 r]] W _
  cases v
  · have HF : Hid (P = false) := by
      show _ = _
      rw [← HP.out]
      exact tt_false fun h => by have := h.1; unfold Vl.valid at this; rw [HV.out] at this; cases this
    go_enter Tryz.func117, Tryz.ntmps117
    go_wp2_with (go_at_call 52; obtain ⟨g0, g1, g2⟩ := HC.out _ rfl; refine (spec_ValidValue_any _ _ _ _ _ HX.out).mono ?_; rintro e w1 ⟨rfl, hb⟩; rw [HV.out]; have HB1 := Lib.hid (g1.trans (hb.mono g1.size)); clear hb g0 g1 g2)
    go_ret
    exact ⟨by rw [HF.out]; rfl, HB1.out⟩
  cases y
  · have HT : Hid (P = true) := by
      show _ = _
      rw [← HP.out]
      exact tt_true ⟨HV.out, fun h => by have : (4 ≤ k ∧ k ≤ 6) := h; simp [this] at hy⟩
    clear hy
    go_enter Tryz.func117, Tryz.ntmps117
    go_wp2_with (first
      | (go_at_call 52; obtain ⟨g0, g1, g2⟩ := HC.out _ rfl; refine (spec_ValidValue_any _ _ _ _ _ HX.out).mono ?_; rintro e w1 ⟨rfl, hb⟩; rw [HV.out]; have HR1 := Lib.hid (g0.below hb g2); have HB1 := Lib.hid (g1.trans (hb.mono g1.size)); have q0 : w1.cell? ⟨W.heap.size, 0, none⟩ = some (.int .i64 k) := HR1.out.cell 0; have q1 : w1.cell? ⟨W.heap.size, 1, none⟩ = some (.int .i64 m) := HR1.out.cell 1; have q2 : w1.cell? ⟨W.heap.size, 2, none⟩ = some (.string t) := HR1.out.cell 2; have q3 : w1.cell? ⟨W.heap.size, 3, none⟩ = some (.int .i64 r) := HR1.out.cell 3; clear hb g0 g1 g2)
      | (go_at_call 145; refine (l07IsRef_any ⟨k, m, t, r⟩ _).mono ?_; rintro e w2 ⟨rfl, hb⟩; rw [show decide (4 ≤ (⟨k, m, t, r⟩ : Vl).k ∧ (⟨k, m, t, r⟩ : Vl).k ≤ 6) = false from HY.out]; have HB2 := Lib.hid (HB1.out.trans (hb.mono HB1.out.size)); clear hb))
    go_ret
    exact ⟨by rw [HT.out]; rfl, HB2.out⟩
  have HKK : Hid (4 ≤ k ∧ k ≤ 6) := by show _ ∧ _; simpa using hy
  clear hy
  go_enter Tryz.func117, Tryz.ntmps117
  go_wp2_with (first
    | (go_at_call 52; obtain ⟨g0, g1, g2⟩ := HC.out _ rfl; refine (spec_ValidValue_any _ _ _ _ _ HX.out).mono ?_; rintro e w1 ⟨rfl, hb⟩; rw [HV.out]; have HR1 := Lib.hid (g0.below hb g2); have HG1 : Hid (W.heap.size < w1.heap.size) := (Nat.lt_of_lt_of_le g2 hb.size); have HB1 := Lib.hid (g1.trans (hb.mono g1.size)); have q0 : w1.cell? ⟨W.heap.size, 0, none⟩ = some (.int .i64 k) := HR1.out.cell 0; have q1 : w1.cell? ⟨W.heap.size, 1, none⟩ = some (.int .i64 m) := HR1.out.cell 1; have q2 : w1.cell? ⟨W.heap.size, 2, none⟩ = some (.string t) := HR1.out.cell 2; have q3 : w1.cell? ⟨W.heap.size, 3, none⟩ = some (.int .i64 r) := HR1.out.cell 3; clear hb g0 g1 g2)
    | (go_at_call 145; refine (l07IsRef_any ⟨k, m, t, r⟩ _).mono ?_; rintro e w2 ⟨rfl, hb⟩; rw [show decide (4 ≤ (⟨k, m, t, r⟩ : Vl).k ∧ (⟨k, m, t, r⟩ : Vl).k ≤ 6) = true from HY.out]; have HR2 := Lib.hid (HR1.out.below hb HG1.out); have HB2 := Lib.hid (HB1.out.trans (hb.mono HB1.out.size)); have H2 := Lib.hid (H.out.go HB2.out); clear q0 q1 q2 q3; have q3 : w2.cell? ⟨W.heap.size, 3, none⟩ = some (.int .i64 r) := HR2.out.cell 3; clear hb)
    | (go_at_call 146; refine (l07Find_any g nx A n c os r _ H2.out).mono ?_; rintro e w3 ⟨f, rfl, HF, rfl⟩; have tk : True := trivial))
  have q0 : w2.cell? ⟨W.heap.size, 0, none⟩ = some (.int .i64 k) := HR2.out.cell 0
  rcases HF.out with ⟨j, o, ho, hid, hf⟩ | ⟨hno, hf⟩
  · have hj : j < n := by have := (List.getElem?_eq_some_iff.1 ho).1; have := H2.out.2.2.1.1; omega
    obtain ⟨b, off, o', l, hA, hg, hx, ⟨_, p1, _⟩, _⟩ := H2.out.2.2.1.at_ hj
    obtain rfl : o = o' := Option.some.inj (ho.symm.trans hx)
    subst hA
    have s1 := H2.out.2.1
    have hn := H2.out.2.2.1.2.1
    unfold maxLen at hn
    have HO := Lib.hid ho
    have HI := Lib.hid hid
    have b0 : (0 : Int) ≤ (j : Int) := by omega
    have b1 : (j : Int) < (n : Int) := by omega
    obtain ⟨z, hz⟩ : ∃ z, (o.kind == k - 3) = z := ⟨_, rfl⟩
    have hK := HKK.out
    have HPZ : Hid (P = z) := by
      show _ = _
      rw [← HP.out, ← hz, Bool.eq_iff_iff]
      simp only [tt_iff, beq_iff_eq]
      constructor
      · intro hfit
        obtain ⟨i, o2, h1, h2, h3⟩ := hfit.2 hK
        have h2' : o2.id = o.id := by rw [h2, hid]
        have := rising_inj HR.out h1 ho h2'
        subst this
        rw [ho, Option.some.injEq] at h1
        subst h1
        exact h3
      · exact fun h => ⟨HV.out, fun _ => ⟨j, o, ho, hid, h⟩⟩
    have x0 := cell_regrown q0
    have x1 := cell_regrown s1
    have x2 := cell_regrown p1
    have cK : ∀ d os', Calls Tryz.prog 147 #[.int .i64 k] (grow (redrawn w2 d) os') (fun e w'' => e = .returned (.int .i64 (k - 3)) ∧ ∃ q : Regrown, w'' = grow (redrawn w2 q.d) q.os) := fun d os' => (l07ObjectKind_any k hK _).mono fun e w' ⟨he, hw⟩ => ⟨he, ⟨d, os'⟩, hw.symm⟩
    subst hf
    clear ho hid hx hg hK q0 q3 s1 p1 hj
    refine wp_region_quiet_below (by kernel_rfl) (by kernel_rfl) ?_
    repeat (first | go_big_quiet_step (exact cK _ _) | quiet_step (exact cK _ _))
    refine wpQuiet_nil ?_
    intro w4 hw'
    obtain ⟨⟨dq, osq⟩, hw''⟩ := hw'
    have HB4 : Hid (Below W.heap.size W w4) := by show Below _ _ _; rw [hw'']; exact HB2.out.trans ((below_regrown w2 dq osq).mono HB2.out.size)
    clear hw''
    clear x0 x1 x2 cK
    go_wp2_with fail
    go_ret
    exact ⟨by rw [HPZ.out]; rfl, HB4.out⟩
  · have HF1 : Hid (P = false) := by
      show _ = _
      rw [← HP.out]
      refine tt_false fun hfit => ?_
      obtain ⟨i, o2, h1, h2, _⟩ := hfit.2 HKK.out
      exact hno i o2 h1 h2
    subst hf
    have x0 := cell_regrown q0
    clear hno q0 q3
    refine wp_region_quiet_below (by kernel_rfl) (by kernel_rfl) ?_
    repeat (first | go_big_quiet_step (fail) | quiet_step (fail))
    refine wpQuiet_nil ?_
    intro w4 hw'
    obtain ⟨⟨dq, osq⟩, hw''⟩ := hw'
    have HB4 : Hid (Below W.heap.size W w4) := by show Below _ _ _; rw [hw'']; exact HB2.out.trans ((below_regrown w2 dq osq).mono HB2.out.size)
    clear hw''
    clear x0
    go_wp2_with fail
    go_ret
    exact ⟨by rw [HF1.out]; rfl, HB4.out⟩
end Go.Proofs.YtfcpdjfckeoniaaGreatDoor

namespace Go.Proofs.YtfcpdjfckeoniaaGreatDoor
open Go Go.RowKit Go.Sort

set_option maxHeartbeats 1000000 in
set_option maxRecDepth 100000 in
theorem l07FitAll_any (g : Nat) (nx : Int) (A : Option Addr) (n c : Nat) (os : List Ob) (A' : Option Addr) (m c' : Nat) (xs : List Vl) (W : World) (h : HPt W g nx A n c os) (hr : Rising os) (hx : VI W W.heap.size A' m xs) :
    Calls Tryz.prog 143 #[.pointer (some ⟨g, 0, none⟩), .slice A' m c'] W fun e w' => e = .returned (.bool (tt (FitAll os xs))) ∧ Below W.heap.size W w' := by
  have H := Lib.hid h
  have HR := Lib.hid hr
  have HX := Lib.hid hx
  have hn := hx.2.1
  have HN := Lib.hid hx.1
  unfold maxLen at hn
  clear h hr hx
  obtain ⟨P, hP⟩ : ∃ P, tt (FitAll os xs) = P := ⟨_, rfl⟩
  have HP := Lib.hid hP
  rw [hP]
  clear hP
  go_enter Tryz.func143, Tryz.ntmps143
  go_wp2_with fail
  go_loopw [5] (fun i wr => ∃ k : Nat, k ≤ m ∧ i = .int .i64 k ∧ Hid (Below W.heap.size W wr) ∧ Hid (∀ (j : Nat) (x : Vl), j < k → xs[j]? = some x → Fits os x)) (fun i _ => m - (intOf i).toNat)
  case atStart => exact ⟨0, Nat.zero_le _, rfl, Below.refl _ _, fun j x hj => absurd hj (by omega)⟩
  case round =>
    obtain ⟨k, hk, rfl, HW, HV⟩ := hrel
    by_cases hlt : k < m
    · obtain ⟨b, off, x, rfl, hg, hx, ⟨q0, q1, q2, q3⟩, hxs⟩ := (HX.out.below HW.out).at_ hlt
      have HE := Lib.hid hx
      have HXS := Lib.hid hxs
      obtain ⟨v, hv⟩ : ∃ v, tt (Fits os x) = v := ⟨_, rfl⟩
      have HVX := Lib.hid hv
      have b0 : (0 : Int) ≤ (k : Int) := by omega
      have b1 : (k : Int) < (m : Int) := by omega
      clear hx hxs hg hv
      cases v
      · have HF : Hid (P = false) := by
          show _ = _
          rw [← HP.out]
          exact tt_false fun h => of_tt_false HVX.out (h k x HE.out)
        go_wp2_with (go_at_call 117; refine (l07Fits_any g nx A n c os x _ (H.out.go HW.out) HR.out HXS.out).mono ?_; rintro e w1 ⟨rfl, hb⟩; rw [HVX.out]; have HW1 : Hid (Below W.heap.size W w1) := HW.out.trans (hb.mono HW.out.size); clear hb)
        go_ret
        exact ⟨by rw [HF.out]; rfl, HW1.out⟩
      · go_wp2_with (go_at_call 117; refine (l07Fits_any g nx A n c os x _ (H.out.go HW.out) HR.out HXS.out).mono ?_; rintro e w1 ⟨rfl, hb⟩; rw [HVX.out]; have HW1 : Hid (Below W.heap.size W w1) := HW.out.trans (hb.mono HW.out.size); clear hb)
        go_roundw
        case rel =>
          refine ⟨k + 1, by omega, by go_num, HW1, fun j y hj hy => ?_⟩
          by_cases e : j = k
          · subst e
            rw [HE.out, Option.some.injEq] at hy
            subst hy
            exact of_tt HVX.out
          · exact HV.out j y (by omega) hy
        case measure => simp [intOf]; omega
    · have hkn : k = m := by omega
      have HT : Hid (P = true) := by
        show _ = _
        rw [← HP.out]
        refine tt_true fun j x hx => HV.out j x ?_ hx
        have := (List.getElem?_eq_some_iff.1 hx).1
        have := HN.out
        omega
      go_wp2_with fail
      go_ret
      exact ⟨by rw [HT.out]; rfl, HW.out⟩

theorem refs_bool (os : List Ob) (o : Ob) : tt (RefsFit os o) = (tt (FitAll os o.keys) && (tt (FitAll os o.vals) && (!(o.kind == 2) || tt (Fits os o.d)))) := by
  rw [Bool.eq_iff_iff]
  unfold RefsFit
  simp only [Bool.and_eq_true, Bool.or_eq_true, tt_iff, Bool.not_eq_true', beq_eq_false_iff_ne]
  constructor
  · rintro ⟨a, b, c⟩
    refine ⟨a, b, ?_⟩
    by_cases h : o.kind = 2
    · exact .inr (c h)
    · exact .inl h
  · rintro ⟨a, b, c | c⟩
    · exact ⟨a, b, fun h => absurd h c⟩
    · exact ⟨a, b, fun _ => c⟩

set_option maxHeartbeats 2000000 in
set_option maxRecDepth 100000 in
theorem l07Refs_any (g : Nat) (nx : Int) (A : Option Addr) (n c : Nat) (os : List Ob) (b p : Nat) (o : Ob) (l : Lay) (W : World) (h : HPt W g nx A n c os) (hr : Rising os) (ho : O10 W b p o l) (hv : OV W W.heap.size o l) (hb : b < W.heap.size) :
    Calls Tryz.prog 115 #[.pointer (some ⟨g, 0, none⟩), .pointer (some ⟨b, p, none⟩)] W fun e w' => e = .returned (.bool (tt (RefsFit os o))) ∧ Below W.heap.size W w' := by
  rw [refs_bool]
  have H := Lib.hid h
  have HR := Lib.hid hr
  have HO := Lib.hid ho
  have HV := Lib.hid hv
  have HB := Lib.hid hb
  clear h hr ho hv hb
  obtain ⟨K, hK⟩ : ∃ z, tt (FitAll os o.keys) = z := ⟨_, rfl⟩
  obtain ⟨V, hV⟩ : ∃ z, tt (FitAll os o.vals) = z := ⟨_, rfl⟩
  obtain ⟨D, hD⟩ : ∃ z, tt (Fits os o.d) = z := ⟨_, rfl⟩
  have HKK := Lib.hid hK
  have HVV := Lib.hid hV
  have HDD := Lib.hid hD
  rw [hK, hV, hD]
  clear hK hV hD
  obtain ⟨q0, q1, q2, q3, q4, q5, q6, q7, q8, q9⟩ := HO.out
  have T1 : True := trivial
  have T2 : True := trivial
  cases K
  · go_enter Tryz.func115, Tryz.ntmps115
    go_wp2_with (first | (go_at_call 143; have tk := T1; have HQ := l07FitAll_any g nx A n c os l.Ak l.nk l.ck o.keys W H.out HR.out HV.out.1; refine Calls.mono HQ ?_; clear HQ T1 tk; rintro e w1 ⟨rfl, hb⟩; rw [HKK.out]; have HB1 := Lib.hid hb; clear q0 q1 q2 q3 q4 q5 q6 q7 q8 q9; obtain ⟨q0, q1, q2, q3, q4, q5, q6, q7, q8, q9⟩ := HO.out.below hb HB.out; clear hb) | (go_at_call 143; have tk := T2; have HQ := l07FitAll_any g nx A n c os l.Av l.nv l.cv o.vals w1 (H.out.go HB1.out) HR.out (HV.out.2.1.go HB1.out); refine Calls.mono HQ ?_; clear HQ T2 tk; rintro e w2 ⟨rfl, hb⟩; rw [HVV.out]; have HB2 := Lib.hid (HB1.out.trans (hb.mono HB1.out.size)); clear q0 q1 q2 q3 q4 q5 q6 q7 q8 q9; obtain ⟨q0, q1, q2, q3, q4, q5, q6, q7, q8, q9⟩ := HO.out.below HB2.out HB.out; (try rw [HZ.out] at q1); clear hb) | (go_at_call 117; have HQ := l07Fits_any g nx A n c os o.d w2 (H.out.go HB2.out) HR.out HV.out.2.2.2; refine Calls.mono HQ ?_; clear HQ; rintro e w3 ⟨rfl, hb⟩; rw [HDD.out]; have HB3 := Lib.hid (HB2.out.trans (hb.mono HB2.out.size)); clear hb))
    all_goals go_ret
    all_goals exact ⟨rfl, HB1.out⟩
  cases V
  · go_enter Tryz.func115, Tryz.ntmps115
    go_wp2_with (first | (go_at_call 143; have tk := T1; have HQ := l07FitAll_any g nx A n c os l.Ak l.nk l.ck o.keys W H.out HR.out HV.out.1; refine Calls.mono HQ ?_; clear HQ T1 tk; rintro e w1 ⟨rfl, hb⟩; rw [HKK.out]; have HB1 := Lib.hid hb; clear q0 q1 q2 q3 q4 q5 q6 q7 q8 q9; obtain ⟨q0, q1, q2, q3, q4, q5, q6, q7, q8, q9⟩ := HO.out.below hb HB.out; clear hb) | (go_at_call 143; have tk := T2; have HQ := l07FitAll_any g nx A n c os l.Av l.nv l.cv o.vals w1 (H.out.go HB1.out) HR.out (HV.out.2.1.go HB1.out); refine Calls.mono HQ ?_; clear HQ T2 tk; rintro e w2 ⟨rfl, hb⟩; rw [HVV.out]; have HB2 := Lib.hid (HB1.out.trans (hb.mono HB1.out.size)); clear q0 q1 q2 q3 q4 q5 q6 q7 q8 q9; obtain ⟨q0, q1, q2, q3, q4, q5, q6, q7, q8, q9⟩ := HO.out.below HB2.out HB.out; (try rw [HZ.out] at q1); clear hb) | (go_at_call 117; have HQ := l07Fits_any g nx A n c os o.d w2 (H.out.go HB2.out) HR.out HV.out.2.2.2; refine Calls.mono HQ ?_; clear HQ; rintro e w3 ⟨rfl, hb⟩; rw [HDD.out]; have HB3 := Lib.hid (HB2.out.trans (hb.mono HB2.out.size)); clear hb))
    all_goals go_ret
    all_goals exact ⟨rfl, HB2.out⟩
  by_cases hz : ¬ o.kind = 2
  · rw [show (o.kind == 2) = false from by simp [hz]]
    go_enter Tryz.func115, Tryz.ntmps115
    go_wp2_with (first | (go_at_call 143; have tk := T1; have HQ := l07FitAll_any g nx A n c os l.Ak l.nk l.ck o.keys W H.out HR.out HV.out.1; refine Calls.mono HQ ?_; clear HQ T1 tk; rintro e w1 ⟨rfl, hb⟩; rw [HKK.out]; have HB1 := Lib.hid hb; clear q0 q1 q2 q3 q4 q5 q6 q7 q8 q9; obtain ⟨q0, q1, q2, q3, q4, q5, q6, q7, q8, q9⟩ := HO.out.below hb HB.out; clear hb) | (go_at_call 143; have tk := T2; have HQ := l07FitAll_any g nx A n c os l.Av l.nv l.cv o.vals w1 (H.out.go HB1.out) HR.out (HV.out.2.1.go HB1.out); refine Calls.mono HQ ?_; clear HQ T2 tk; rintro e w2 ⟨rfl, hb⟩; rw [HVV.out]; have HB2 := Lib.hid (HB1.out.trans (hb.mono HB1.out.size)); clear q0 q1 q2 q3 q4 q5 q6 q7 q8 q9; obtain ⟨q0, q1, q2, q3, q4, q5, q6, q7, q8, q9⟩ := HO.out.below HB2.out HB.out; (try rw [HZ.out] at q1); clear hb) | (go_at_call 117; have HQ := l07Fits_any g nx A n c os o.d w2 (H.out.go HB2.out) HR.out HV.out.2.2.2; refine Calls.mono HQ ?_; clear HQ; rintro e w3 ⟨rfl, hb⟩; rw [HDD.out]; have HB3 := Lib.hid (HB2.out.trans (hb.mono HB2.out.size)); clear hb))
    all_goals go_ret
    all_goals exact ⟨rfl, HB2.out⟩
  replace hz : o.kind = 2 := by omega
  have HZ := Lib.hid hz
  rw [show (o.kind == 2) = true from by simp [hz]]
  rw [hz] at q1
  clear hz
  cases D
  all_goals
    go_enter Tryz.func115, Tryz.ntmps115
    go_wp2_with (first | (go_at_call 143; have tk := T1; have HQ := l07FitAll_any g nx A n c os l.Ak l.nk l.ck o.keys W H.out HR.out HV.out.1; refine Calls.mono HQ ?_; clear HQ T1 tk; rintro e w1 ⟨rfl, hb⟩; rw [HKK.out]; have HB1 := Lib.hid hb; clear q0 q1 q2 q3 q4 q5 q6 q7 q8 q9; obtain ⟨q0, q1, q2, q3, q4, q5, q6, q7, q8, q9⟩ := HO.out.below hb HB.out; clear hb) | (go_at_call 143; have tk := T2; have HQ := l07FitAll_any g nx A n c os l.Av l.nv l.cv o.vals w1 (H.out.go HB1.out) HR.out (HV.out.2.1.go HB1.out); refine Calls.mono HQ ?_; clear HQ T2 tk; rintro e w2 ⟨rfl, hb⟩; rw [HVV.out]; have HB2 := Lib.hid (HB1.out.trans (hb.mono HB1.out.size)); clear q0 q1 q2 q3 q4 q5 q6 q7 q8 q9; obtain ⟨q0, q1, q2, q3, q4, q5, q6, q7, q8, q9⟩ := HO.out.below HB2.out HB.out; (try rw [HZ.out] at q1); clear hb) | (go_at_call 117; have HQ := l07Fits_any g nx A n c os o.d w2 (H.out.go HB2.out) HR.out HV.out.2.2.2; refine Calls.mono HQ ?_; clear HQ; rintro e w3 ⟨rfl, hb⟩; rw [HDD.out]; have HB3 := Lib.hid (HB2.out.trans (hb.mono HB2.out.size)); clear hb))
    all_goals go_ret
    all_goals exact ⟨rfl, HB3.out⟩
end Go.Proofs.YtfcpdjfckeoniaaGreatDoor
