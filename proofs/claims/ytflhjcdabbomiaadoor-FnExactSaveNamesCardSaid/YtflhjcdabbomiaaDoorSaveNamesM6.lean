/- toFunction, toFunctionS of the laws: rows of their own. No condition. toRecordType, toRecordTypeS of the laws: rows of their own. No condition. toScope of the laws: rows of its own. No condition. laws.markStringS on a row of strings: only its block turns. No condition. laws.markFunctionS on a row of one's own: only its blocks turn. No condition. laws.markRecordTypeS on a row of one's own: only its blocks turn. No condition. laws.markScope on a scope of one's own: only its blocks turn. No condition. toScope, toScopeS of the laws. No condition. laws.eqScope, laws.eqScopeS where both are the same. No condition. -/
import Derived.Test.YtflhjcdabbomiaaDoorSaveNamesM3
import Derived.Test.YtflhjcdabbomiaaDoorSaveNamesM5
import Derived.Test.YtflhjcdabbomiaaDoorSaveNamesM4
namespace Go.Proofs.YtflhjcdabbomiaaDoor
open Go Go.RowKit

/-- Its lists are rows of one's own. -/
def FnVO (w : World) (B : Nat) (x : Fn) (l : FnLay) : Prop := StIO w B l.A1 l.n1 x.params_ ∧ StIO w B l.A2 l.n2 x.locals_ ∧ x.name_.size ≤ maxLen ∧ x.label_.size ≤ maxLen
theorem FnVO.below {w w' : World} {B : Nat} {x : Fn} {l : FnLay} (h : FnVO w B x l) (hb : Below B w w') : FnVO w' B x l := by
  obtain ⟨a0, a1, a2, a3⟩ := h
  exact ⟨a0.below hb, a1.below hb, a2, a3⟩
theorem FnVO.more {w : World} {B B' : Nat} {x : Fn} {l : FnLay} (h : FnVO w B x l) (hB : B ≤ B') : FnVO w B' x l := by
  obtain ⟨a0, a1, a2, a3⟩ := h
  exact ⟨a0.more hB, a1.more hB, a2, a3⟩
theorem FnVO.toV {w : World} {B : Nat} {x : Fn} {l : FnLay} (h : FnVO w B x l) : FnV w B x l := by
  obtain ⟨a0, a1, a2, a3⟩ := h
  exact ⟨a0.1, a1.1, a2, a3⟩
/-- A slice of them that lies below B: a row of one's own. -/
def FnIO (w : World) (B : Nat) (A : Option Addr) (n : Nat) (xs : List Fn) : Prop :=
  xs.length = n ∧ n ≤ maxLen ∧ (0 < n → ∃ g cs, A = some ⟨g, 0, none⟩ ∧ g < B ∧ RW 81 w g cs ∧ n * 4 ≤ cs.size ∧ ∀ (j : Nat) (x : Fn), xs[j]? = some x → ∃ l, (∀ (q : Nat) (v : Value), (x.vs l)[q]? = some v → cs[j * 4 + q]? = some v) ∧ FnVO w B x l ∧ (∀ a, l.A1 = some a → g < a.block) ∧ (∀ a, l.A2 = some a → g < a.block))
theorem FnIO.below {w w' : World} {B n : Nat} {A : Option Addr} {xs : List Fn} (h : FnIO w B A n xs) (hb : Below B w w') : FnIO w' B A n xs :=
  ⟨h.1, h.2.1, fun hn => by
    obtain ⟨g, cs, e, hg, hr, hc, hm⟩ := h.2.2 hn
    refine ⟨g, cs, e, hg, hr.below hb hg, hc, fun j x hx => ?_⟩
    obtain ⟨l, h1, h2, h3⟩ := hm j x hx
    exact ⟨l, h1, h2.below hb, h3⟩⟩
theorem FnIO.more {w : World} {B B' n : Nat} {A : Option Addr} {xs : List Fn} (h : FnIO w B A n xs) (hB : B ≤ B') : FnIO w B' A n xs :=
  ⟨h.1, h.2.1, fun hn => by
    obtain ⟨g, cs, e, hg, hr, hc, hm⟩ := h.2.2 hn
    refine ⟨g, cs, e, by omega, hr, hc, fun j x hx => ?_⟩
    obtain ⟨l, h1, h2, h3⟩ := hm j x hx
    exact ⟨l, h1, h2.more hB, h3⟩⟩
theorem FnIO.toI {w : World} {B n : Nat} {A : Option Addr} {xs : List Fn} (h : FnIO w B A n xs) : FnI w B A n xs :=
  ⟨h.1, h.2.1, fun hn => by
    obtain ⟨g, cs, e, hg, hr, hc, hm⟩ := h.2.2 hn
    refine ⟨g, 0, e, hg, fun j x hx => ?_⟩
    obtain ⟨l, h1, h2, _⟩ := hm j x hx
    rw [Nat.zero_add]
    exact ⟨l, ⟨(hr.cell _).trans (h1 0 _ rfl), (hr.cell _).trans (h1 1 _ rfl), (hr.cell _).trans (h1 2 _ rfl), (hr.cell _).trans (h1 3 _ rfl)⟩, h2.toV⟩⟩

/-- What toFunction answers. -/
def ToFnO (x : Fn) (W : World) (e : Ending) (w' : World) : Prop := ∃ l, e = .returned (x.ag l) ∧ Hid (FnVO w' w'.heap.size x l ∧ Below W.heap.size W w' ∧ l.n1 = x.params_.length ∧ l.n2 = x.locals_.length ∧ ∃ b1 b2, l.A1 = some ⟨b1, 0, none⟩ ∧ l.A2 = some ⟨b2, 0, none⟩ ∧ W.heap.size ≤ b1 ∧ W.heap.size ≤ b2)

set_option maxHeartbeats 2000000 in
set_option maxRecDepth 100000 in
theorem toFunction_own (x : Fn) (l : FnLay) (W : World) (ho : FnV W W.heap.size x l) (hsm : FnSmall x) :
    Calls Tryd.prog 51 #[x.ag l] W (ToFnO x W) := by
  obtain ⟨x0, x1, x2, x3⟩ := x
  obtain ⟨A1, n1, c1, h1, A2, n2, c2, h2⟩ := l
  obtain ⟨k1, k2, k0, k3⟩ := ho
  obtain ⟨s1, s2⟩ := hsm
  try unfold FnVO at k1 k2 k0 k3
  try unfold FnSmall at s1 s2
  dsimp only at k1 k2 k0 k3 s1 s2
  rw [k1.1] at s1
  have HK1 := Lib.hid k1
  have HS1 := Lib.hid s1
  rw [k2.1] at s2
  have HK2 := Lib.hid k2
  have HS2 := Lib.hid s2
  have HT0 := Lib.hid k0
  have HT3 := Lib.hid k3
  clear k1 k2 k0 k3 s1 s2
  have HC := Lib.hid (fun (X Y : World) (T T' : TypeId) (c c' : Array Value) (eY : Y = W.alloc (.cells #[.string x0, .slice A1 n1 c1, .slice A2 n2 c2, .string x3] T)) (eX : X = (Y.alloc (.cells c T')).alloc (.cells c' T')) =>
    (show RW T X W.heap.size #[.string x0, .slice A1 n1 c1, .slice A2 n2 c2, .string x3] ∧ RW T' X (W.heap.size + 1 + 1) c' ∧ RW T' X (W.heap.size + 1) c ∧ Below W.heap.size W X ∧ X.heap.size = W.heap.size + 3 from by
      subst eX; subst eY
      refine ⟨((RW.new W _ T).alloc _).alloc _, ?_, ?_, ((below_alloc _ _).alloc (by simp) _).alloc (by simp; omega) _, by simp⟩
      · have := RW.new ((W.alloc (.cells #[.string x0, .slice A1 n1 c1, .slice A2 n2 c2, .string x3] T)).alloc (.cells c T')) c' T'
        simpa using this
      · have := (RW.new (W.alloc (.cells #[.string x0, .slice A1 n1 c1, .slice A2 n2 c2, .string x3] T)) c T').alloc (.cells c' T')
        simpa using this))
  show Calls Tryd.prog 51 #[.agg #[.string x0, .slice A1 n1 c1, .slice A2 n2 c2, .string x3]] W _
  go_enter Tryd.func51, Tryd.ntmps51
  go_wp2_with (go_at_call 13; obtain ⟨g0, g1, g4, g2, g3⟩ := HC.out _ _ _ _ _ _ rfl rfl; have HQ := toStringS_own A1 n1 c1 x1 _ (HK1.out.go g2) HS1.out; refine Calls.mono HQ ?_; clear HQ; rintro e w1 ⟨rfl, h⟩; obtain ⟨hv, hb⟩ := h.out; have hd := hv.det; rw [g3] at hv hd; have HA1 := Lib.hid (g0.below hb (by omega)); have HR1 := Lib.hid (g1.below hb (by omega)); have HO1 := Lib.hid (g4.below hb (by omega)); have HB1 := Lib.hid (g2.trans (hb.mono g2.size)); have HV1_1 : Hid (Det (W.heap.size + 1 + 1 + 1) w1.heap.size w1 fun w => StIO w w1.heap.size (some ⟨W.heap.size + 1 + 1 + 1, 0, none⟩) n1 x1) := hd; have HG1 : Hid (W.heap.size + 3 ≤ w1.heap.size) := (by have := hb.size; show _ ≤ _; omega); clear g0 g1 g2 g3 g4 h hv hd hb HK1; have q12 : w1.cell? ⟨W.heap.size, 2, none⟩ = some (.slice A2 n2 c2) := HA1.out.cell 2; have p11 : w1.cell? ⟨W.heap.size + 1 + 1, 1, none⟩ = some (.slice none 0 0) := HR1.out.cell 1; have f11 := HR1.out.frozen 1)
  go_wp2_with (go_at_call 13; have hbs : Below (W.heap.size + 2) w1 (w1.setCell ⟨W.heap.size + 1 + 1, 1, none⟩ (.slice (some ⟨W.heap.size + 1 + 1 + 1, 0, none⟩) n1 n1)) := below_set w1 (p := ⟨W.heap.size + 1 + 1, 1, none⟩) (B := W.heap.size + 2) (Nat.le_refl _) (.slice (some ⟨W.heap.size + 1 + 1 + 1, 0, none⟩) n1 n1); have hzz : (w1.setCell ⟨W.heap.size + 1 + 1, 1, none⟩ (.slice (some ⟨W.heap.size + 1 + 1 + 1, 0, none⟩) n1 n1)).heap.size = w1.heap.size := (by simp [World.setCell]); have HQ := toStringS_own A2 n2 c2 x2 (w1.setCell ⟨W.heap.size + 1 + 1, 1, none⟩ (.slice (some ⟨W.heap.size + 1 + 1 + 1, 0, none⟩) n1 n1)) (HK2.out.go (HB1.out.trans (hbs.mono (by omega)))) HS2.out; refine Calls.mono HQ ?_; clear HQ; rintro e w2 ⟨rfl, h⟩; obtain ⟨hv, hb⟩ := h.out; have hd := hv.det; rw [hzz] at hb hv hd; have hsz := hb.size; rw [hzz] at hsz; have hs1 := HG1.out; have HA2 := Lib.hid ((HA1.out.below hbs (by omega)).below hb (by omega)); have HR2 := Lib.hid (((HR1.out).set_ 1 (.slice (some ⟨W.heap.size + 1 + 1 + 1, 0, none⟩) n1 n1)).below hb (by omega)); have HO2 := Lib.hid ((HO1.out.below hbs (by omega)).below hb (by omega)); have HB2 := Lib.hid ((HB1.out.trans (hbs.mono (by omega))).trans (hb.mono (by omega))); have HG2 : Hid (W.heap.size + 3 ≤ w2.heap.size) := (Nat.le_trans hs1 hsz); have HV2_2 : Hid (Det (w1.heap.size) w2.heap.size w2 fun w => StIO w w2.heap.size (some ⟨w1.heap.size, 0, none⟩) n2 x2) := hd; have HZ2 : Hid (w1.heap.size ≠ W.heap.size + 1 + 1) := (by show _ ≠ _; omega); have HV2_1 := Lib.hid (((((HV1_1.out).set (p := ⟨W.heap.size + 1 + 1, 1, none⟩) (by have := HG1.out; dsimp only; omega) (.slice (some ⟨W.heap.size + 1 + 1 + 1, 0, none⟩) n1 n1)).below hb (by omega)).wide (Nat.le_refl _) hsz).imp fun w h => h.more hsz); clear hbs hzz hb hv hd h hsz hs1 HK2; have q23 : w2.cell? ⟨W.heap.size, 3, none⟩ = some (.string x3) := HA2.out.cell 3; have p22 : w2.cell? ⟨W.heap.size + 1 + 1, 2, none⟩ = some (.slice none 0 0) := HR2.out.cell 2; have f22 := HR2.out.frozen 2; have p23 : w2.cell? ⟨W.heap.size + 1 + 1, 3, none⟩ = some (.string ⟨#[]⟩) := HR2.out.cell 3; have f23 := HR2.out.frozen 3; have p20 : w2.cell? ⟨W.heap.size + 1 + 1, 0, none⟩ = some (.string x0) := HR2.out.cell 0; have p21 : w2.cell? ⟨W.heap.size + 1 + 1, 1, none⟩ = some (.slice (some ⟨W.heap.size + 1 + 1 + 1, 0, none⟩) n1 n1) := HR2.out.cell 1; have r0 : w2.cell? ⟨W.heap.size + 1, 0, none⟩ = some (.string ⟨#[]⟩) := HO2.out.cell 0; have z0 := HO2.out.frozen 0; have r1 : w2.cell? ⟨W.heap.size + 1, 1, none⟩ = some (.slice none 0 0) := HO2.out.cell 1; have z1 := HO2.out.frozen 1; have r2 : w2.cell? ⟨W.heap.size + 1, 2, none⟩ = some (.slice none 0 0) := HO2.out.cell 2; have z2 := HO2.out.frozen 2; have r3 : w2.cell? ⟨W.heap.size + 1, 3, none⟩ = some (.string ⟨#[]⟩) := HO2.out.cell 3; have z3 := HO2.out.frozen 3)
  have hs1 := HG2.out
  have hb1 : Below (W.heap.size + 1) w2 ((((((w2.setCell ⟨W.heap.size + 1 + 1, 2, none⟩ (.slice (some ⟨w1.heap.size, 0, none⟩) n2 n2)).setCell ⟨W.heap.size + 1 + 1, 3, none⟩ (.string x3)).setCell ⟨W.heap.size + 1, 0, none⟩ (.string x0)).setCell ⟨W.heap.size + 1, 1, none⟩ (.slice (some ⟨W.heap.size + 1 + 1 + 1, 0, none⟩) n1 n1)).setCell ⟨W.heap.size + 1, 2, none⟩ (.slice (some ⟨w1.heap.size, 0, none⟩) n2 n2)).setCell ⟨W.heap.size + 1, 3, none⟩ (.string x3)) := ((((((below_set w2 (p := ⟨W.heap.size + 1 + 1, 2, none⟩) (by simp) _).setCell (by simp) _).setCell (by simp) _).setCell (by simp) _).setCell (by simp) _).setCell (by simp) _)
  have hzz : ((((((w2.setCell ⟨W.heap.size + 1 + 1, 2, none⟩ (.slice (some ⟨w1.heap.size, 0, none⟩) n2 n2)).setCell ⟨W.heap.size + 1 + 1, 3, none⟩ (.string x3)).setCell ⟨W.heap.size + 1, 0, none⟩ (.string x0)).setCell ⟨W.heap.size + 1, 1, none⟩ (.slice (some ⟨W.heap.size + 1 + 1 + 1, 0, none⟩) n1 n1)).setCell ⟨W.heap.size + 1, 2, none⟩ (.slice (some ⟨w1.heap.size, 0, none⟩) n2 n2)).setCell ⟨W.heap.size + 1, 3, none⟩ (.string x3)).heap.size = w2.heap.size := by simp [World.setCell]
  refine bodyPost_ret (v := .agg #[.string x0, .slice (some ⟨W.heap.size + 1 + 1 + 1, 0, none⟩) n1 n1, .slice (some ⟨w1.heap.size, 0, none⟩) n2 n2, .string x3]) (results_cell_row Tryd.results51 _ _ (W.heap.size + 1) 81 _ (0, 0) _ rfl ((((((((((((HO2.out).other (p := ⟨W.heap.size + 1 + 1, 2, none⟩) (by simp) (.slice (some ⟨w1.heap.size, 0, none⟩) n2 n2))).other (p := ⟨W.heap.size + 1 + 1, 3, none⟩) (by simp) (.string x3))).set_ 0 (.string x0))).set_ 1 (.slice (some ⟨W.heap.size + 1 + 1 + 1, 0, none⟩) n1 n1))).set_ 2 (.slice (some ⟨w1.heap.size, 0, none⟩) n2 n2))).set_ 3 (.string x3)) Tryd.underlying81 rfl (by kernel_rfl)) rfl ⟨⟨some ⟨W.heap.size + 1 + 1 + 1, 0, none⟩, n1, n1, Nat.le_refl _, some ⟨w1.heap.size, 0, none⟩, n2, n2, Nat.le_refl _⟩, rfl, Lib.hid ⟨?_, HB2.out.trans (hb1.mono (by omega)), HV2_1.out.self.1.1.symm, HV2_2.out.self.1.1.symm, _, _, rfl, rfl, by omega, by have := HG1.out; have := HG2.out; omega⟩⟩
  show FnVO ((((((w2.setCell ⟨W.heap.size + 1 + 1, 2, none⟩ (.slice (some ⟨w1.heap.size, 0, none⟩) n2 n2)).setCell ⟨W.heap.size + 1 + 1, 3, none⟩ (.string x3)).setCell ⟨W.heap.size + 1, 0, none⟩ (.string x0)).setCell ⟨W.heap.size + 1, 1, none⟩ (.slice (some ⟨W.heap.size + 1 + 1 + 1, 0, none⟩) n1 n1)).setCell ⟨W.heap.size + 1, 2, none⟩ (.slice (some ⟨w1.heap.size, 0, none⟩) n2 n2)).setCell ⟨W.heap.size + 1, 3, none⟩ (.string x3)) ((((((w2.setCell ⟨W.heap.size + 1 + 1, 2, none⟩ (.slice (some ⟨w1.heap.size, 0, none⟩) n2 n2)).setCell ⟨W.heap.size + 1 + 1, 3, none⟩ (.string x3)).setCell ⟨W.heap.size + 1, 0, none⟩ (.string x0)).setCell ⟨W.heap.size + 1, 1, none⟩ (.slice (some ⟨W.heap.size + 1 + 1 + 1, 0, none⟩) n1 n1)).setCell ⟨W.heap.size + 1, 2, none⟩ (.slice (some ⟨w1.heap.size, 0, none⟩) n2 n2)).setCell ⟨W.heap.size + 1, 3, none⟩ (.string x3)).heap.size ⟨x0, x1, x2, x3⟩ ⟨some ⟨W.heap.size + 1 + 1 + 1, 0, none⟩, n1, n1, Nat.le_refl _, some ⟨w1.heap.size, 0, none⟩, n2, n2, Nat.le_refl _⟩
  rw [hzz]
  exact ⟨((((((((((((HV2_1.out).set (p := ⟨W.heap.size + 1 + 1, 2, none⟩) (by first | (dsimp only; omega) | omega) _)).set (p := ⟨W.heap.size + 1 + 1, 3, none⟩) (by first | (dsimp only; omega) | omega) _)).set (p := ⟨W.heap.size + 1, 0, none⟩) (by first | (dsimp only; omega) | omega) _)).set (p := ⟨W.heap.size + 1, 1, none⟩) (by first | (dsimp only; omega) | omega) _)).set (p := ⟨W.heap.size + 1, 2, none⟩) (by first | (dsimp only; omega) | omega) _)).set (p := ⟨W.heap.size + 1, 3, none⟩) (by first | (dsimp only; omega) | omega) _).self, ((((((((((((HV2_2.out).set (p := ⟨W.heap.size + 1 + 1, 2, none⟩) (by have := HG1.out; first | (dsimp only; omega) | omega) _)).set (p := ⟨W.heap.size + 1 + 1, 3, none⟩) (by have := HG1.out; first | (dsimp only; omega) | omega) _)).set (p := ⟨W.heap.size + 1, 0, none⟩) (by have := HG1.out; first | (dsimp only; omega) | omega) _)).set (p := ⟨W.heap.size + 1, 1, none⟩) (by have := HG1.out; first | (dsimp only; omega) | omega) _)).set (p := ⟨W.heap.size + 1, 2, none⟩) (by have := HG1.out; first | (dsimp only; omega) | omega) _)).set (p := ⟨W.heap.size + 1, 3, none⟩) (by have := HG1.out; first | (dsimp only; omega) | omega) _).self, HT0.out, HT3.out⟩

/-- The elements of block g ahead of j are filled; their lists lie elsewhere. -/
def FilledFnO (w : World) (g j n : Nat) (xs : List Fn) : Prop :=
  ∃ cs, RW 81 w g cs ∧ n * 4 ≤ cs.size ∧ ∀ (i : Nat) (x : Fn), i < j → xs[i]? = some x → ∃ l b1 b2, l.A1 = some ⟨b1, 0, none⟩ ∧ l.A2 = some ⟨b2, 0, none⟩ ∧ g < b1 ∧ g < b2 ∧ FnVO w w.heap.size x l ∧ ∀ (q : Nat) (v : Value), (x.vs l)[q]? = some v → cs[i * 4 + q]? = some v
theorem FilledFnO.below {w w' : World} {g j n : Nat} {xs : List Fn} (h : FilledFnO w g j n xs) (hb : Below w.heap.size w w') : FilledFnO w' g j n xs := by
  obtain ⟨cs, hr, hn, hm⟩ := h
  refine ⟨cs, hr.below hb hr.lt, hn, fun i x hi hx => ?_⟩
  obtain ⟨l, b1, b2, h1, h2, u1, u2, h5, h6⟩ := hm i x hi hx
  exact ⟨l, b1, b2, h1, h2, u1, u2, (h5.below hb).more hb.size, h6⟩
theorem FnVO.others {w : World} {B g o : Nat} {x : Fn} {l : FnLay} {b1 b2 : Nat} (h : FnVO w B x l) (h1 : l.A1 = some ⟨b1, 0, none⟩) (h2 : l.A2 = some ⟨b2, 0, none⟩) (u1 : b1 ≠ g) (u2 : b2 ≠ g) (vs : List Value) : FnVO (w.setCells g o vs) B x l := by
  obtain ⟨a0, a1, a2, a3⟩ := h
  try unfold FnVO at a0 a1 a2 a3 ⊢
  rw [h1] at a0
  rw [h2] at a1
  refine ⟨?_, ?_, a2, a3⟩
  · rw [h1]; exact a0.others u1
  · rw [h2]; exact a1.others u2
theorem size_setsFnO (vs : List Value) (w : World) (g k : Nat) : (w.setCells g k vs).heap.size = w.heap.size := by
  induction vs generalizing w k with
  | nil => rfl
  | cons v r ih => exact (ih _ _).trans (size_set _ _ _)
theorem FilledFnO.store {w : World} {g j n : Nat} {xs : List Fn} {x : Fn} {l : FnLay} {b1 b2 : Nat} (h : FilledFnO w g j n xs) (hx : xs[j]? = some x) (hj : j < n) (h1 : l.A1 = some ⟨b1, 0, none⟩) (h2 : l.A2 = some ⟨b2, 0, none⟩) (u1 : g < b1) (u2 : g < b2) (h5 : FnVO w w.heap.size x l) :
    FilledFnO (w.setCells g (j * 4) (x.vs l)) g (j + 1) n xs := by
  obtain ⟨cs, hr, hn, hm⟩ := h
  have hs : (w.setCells g (j * 4) (x.vs l)).heap.size = w.heap.size := size_setsFnO _ _ _ _
  have hlK : (x.vs l).length = 4 := rfl
  refine ⟨_, hr.cells, by rw [putL_size]; exact hn, fun i y hi hy => ?_⟩
  by_cases e : i = j
  · subst e
    rw [hx, Option.some.injEq] at hy
    subst hy
    refine ⟨l, b1, b2, h1, h2, u1, u2, ?_, fun q v hq => putL_new _ _ _ _ _ (by rw [hlK]; omega) hq⟩
    rw [hs]
    exact h5.others h1 h2 (by omega) (by omega) _
  · obtain ⟨l', b1', b2', j1, j2, v1, v2, k5, k6⟩ := hm i y (by omega) hy
    refine ⟨l', b1', b2', j1, j2, v1, v2, ?_, fun q v hq => ?_⟩
    · rw [hs]
      exact k5.others j1 j2 (by omega) (by omega) _
    · have hqK : q < 4 := (List.getElem?_eq_some_iff.1 hq).1
      rw [putL_old _ _ _ _ (by omega)]
      exact k6 q v hq
theorem FilledFnO.all {w : World} {g n : Nat} {xs : List Fn} (h : FilledFnO w g n n xs) (hl : xs.length = n) (hn : n ≤ maxLen) : FnIO w w.heap.size (some ⟨g, 0, none⟩) n xs := by
  obtain ⟨cs, hr, hc, hm⟩ := h
  refine ⟨hl, hn, fun _ => ⟨g, cs, rfl, hr.lt, hr, hc, fun j x hx => ?_⟩⟩
  obtain ⟨l, b1, b2, h1, h2, u1, u2, h5, h6⟩ := hm j x (by rw [← hl]; exact (List.getElem?_eq_some_iff.1 hx).1) hx
  exact ⟨l, h6, h5, fun a ha => by rw [h1] at ha; cases ha; exact u1, fun a ha => by rw [h2] at ha; cases ha; exact u2⟩
theorem FilledFnO.det {w : World} {g n : Nat} {xs : List Fn} (h : FilledFnO w g n n xs) (hl : xs.length = n) (hn : n ≤ maxLen) : Det g w.heap.size w fun w' => FnIO w' w.heap.size (some ⟨g, 0, none⟩) n xs := by
  intro w' hk
  obtain ⟨cs, hr, hc, hm⟩ := h
  have hr' : RW 81 w' g cs := (hk g (Nat.le_refl _) hr.lt).trans hr
  refine ⟨hl, hn, fun _ => ⟨g, cs, rfl, hr.lt, hr', hc, fun j x hx => ?_⟩⟩
  obtain ⟨l, b1, b2, h1, h2, u1, u2, h5, h6⟩ := hm j x (by rw [← hl]; exact (List.getElem?_eq_some_iff.1 hx).1) hx
  obtain ⟨a0, a1, a2, a3⟩ := h5
  exact ⟨l, h6, ⟨by rw [h1] at a0 ⊢; exact a0.det w' fun g' k1 k2 => hk g' (by omega) k2, by rw [h2] at a1 ⊢; exact a1.det w' fun g' k1 k2 => hk g' (by omega) k2, a2, a3⟩, fun a ha => by rw [h1] at ha; cases ha; exact u1, fun a ha => by rw [h2] at ha; cases ha; exact u2⟩
theorem infoFnO : (Tryd.prog.info? 81).map (fun i => (i.zero, i.size, i.bytes)) = some (some (Value.agg #[.string ⟨#[]⟩, .slice none 0 0, .slice none 0 0, .string ⟨#[]⟩]), 4, 80) := by kernel_rfl
theorem ownFnO {w : World} {B g n : Nat} {xs : List Value} (h : w.ownsRow B 81 4 (.slice (some ⟨g, 0, none⟩) n n) n xs) : ∃ cs, RW 81 w g cs ∧ n * 4 ≤ cs.size := by
  rcases h.2 with ⟨h', _⟩ | ⟨g', cap', cur, h', _, hg, _, _, hsz, _⟩
  · simp at h'
  · simp only [Value.slice.injEq, Option.some.injEq, Addr.mk.injEq, and_true, true_and] at h'
    obtain ⟨rfl, rfl⟩ := h'
    exact ⟨cur, hg, by omega⟩
/-- What toFunctionS answers. -/
def ToFnSO (xs : List Fn) (n : Nat) (W : World) (e : Ending) (w' : World) : Prop :=
  e = .returned (.slice (some ⟨W.heap.size, 0, none⟩) n n) ∧ Hid (FnIO w' w'.heap.size (some ⟨W.heap.size, 0, none⟩) n xs ∧ Below W.heap.size W w' ∧ Det W.heap.size w'.heap.size w' fun w => FnIO w w'.heap.size (some ⟨W.heap.size, 0, none⟩) n xs)

set_option maxHeartbeats 2000000 in
set_option maxRecDepth 100000 in
theorem toFunctionS_own (A : Option Addr) (n c : Nat) (xs : List Fn) (W : World) (hr : FnI W W.heap.size A n xs) (hs : ∀ (j : Nat) (x : Fn), xs[j]? = some x → FnSmall x) (hn : n ≤ 1048576) :
    Calls Tryd.prog 28 #[.slice A n c] W (ToFnSO xs n W) := by
  obtain ⟨i0, hi, hz0, hz1, hz2⟩ := info_parts infoFnO
  have HR := Lib.hid hr
  have HS := Lib.hid hs
  have h1 : (n : Int) ≤ 1048576 := by omega
  clear hr hs
  go_enter Tryd.func28, Tryd.ntmps28
  go_wp2_with (at_make; refine wpList_make_full _ rfl _ _ 33 rfl W.heap.size 81 i0 (.agg #[.string ⟨#[]⟩, .slice none 0 0, .slice none 0 0, .string ⟨#[]⟩]) 4 Tryd.underlying33 hi hz0 hz1 .i64 .i64 n n n rfl rfl rfl rfl (by rw [hz2]; omega) (by unfold maxLen; omega) (Nat.le_refl _) ?_)
  intro w1 hown hgrow
  have HB1 : Hid (Below W.heap.size W w1) := below_grown_none hgrow
  obtain ⟨cs, hcs, hcn⟩ := ownFnO hown
  have HG : Hid (W.heap.size < w1.heap.size) := hcs.lt
  have HM : Hid (FilledFnO w1 W.heap.size 0 n xs) := ⟨cs, hcs, hcn, fun i x hi => absurd hi (by omega)⟩
  clear hown hgrow hcs hcn hi hz0 hz1 hz2
  go_wp2_with fail
  go_loopw [4] (fun i wr => ∃ j : Nat, j ≤ n ∧ i = .int .i64 j ∧ Hid (Below W.heap.size W wr) ∧ Hid (W.heap.size < wr.heap.size) ∧ Hid (FilledFnO wr W.heap.size j n xs)) (fun i _ => n - (intOf i).toNat)
  case atStart => exact ⟨0, Nat.zero_le _, rfl, HB1, HG, HM⟩
  case round =>
    obtain ⟨j, hj, rfl, HW, HZ, HJ⟩ := hrel
    by_cases hlt : j < n
    · obtain ⟨b, off, x, l, rfl, hg, hx, ⟨q0, q1, q2, q3⟩, hov⟩ := (HR.out.below HW.out).at_ hlt
      have HX := Lib.hid hx
      have HO := Lib.hid (hov.more HW.out.size)
      have HLT := Lib.hid hlt
      have HS1 := Lib.hid (HS.out j x hx)
      clear hx hov hg
      have b0 : (0 : Int) ≤ (j : Int) := by omega
      have b1 : (j : Int) < (n : Int) := by omega
      go_wp2_with (first | (go_at_call 51; have HQ := toFunction_own x l _ HO.out HS1.out; refine Calls.mono HQ ?_; clear HQ; rintro e w2 ⟨⟨A1, n1, c1, h1, A2, n2, c2, h2⟩, rfl, h⟩; obtain ⟨g1, hb, en1, en2, b1, b2, e1, e2, g1g, g2g⟩ := h.out; clear en1 en2; have HF := Lib.hid (HJ.out.below hb); have hlt2 := HLT.out; have hzz := HZ.out; have HF2 : Hid (FilledFnO (w2.setCells W.heap.size (j * 4) [.string x.name_, .slice A1 n1 c1, .slice A2 n2 c2, .string x.label_]) W.heap.size (j + 1) n xs) := (by have k := HF.out.store HX.out hlt2 e1 e2 (Nat.lt_of_lt_of_le hzz g1g) (Nat.lt_of_lt_of_le hzz g2g) g1; unfold Fn.vs at k; exact k); have HT : Hid (w2.there W.heap.size (j * 4) 4) := (by obtain ⟨cs, hr, hc, _⟩ := HF.out; exact hr.there (by omega)); have HW2 : Hid (Below W.heap.size W (w2.setCells W.heap.size (j * 4) [.string x.name_, .slice A1 n1 c1, .slice A2 n2 c2, .string x.label_])) := ((HW.out.trans (hb.mono HW.out.size)).trans (below_cells (Nat.le_refl _) _ _ _)); have HZ2 : Hid (W.heap.size < (w2.setCells W.heap.size (j * 4) [.string x.name_, .slice A1 n1 c1, .slice A2 n2 c2, .string x.label_]).heap.size) := (by obtain ⟨_, hr, _⟩ := HF2.out; exact hr.lt); have tk1 : True := trivial; clear h g1 hb e1 g1g e2 g2g hlt2 hzz q0 q1 q2 q3) | (clear tk1; refine wpList_store_mid rfl 81 (.tmp 21) (.tmp 20) rfl W.heap.size (j * 4) _ rfl rfl HT.out (by kernel_rfl) (by kernel_rfl) ?_; go_frame; clear HT; generalize w2.setCells W.heap.size (j * 4) [.string x.name_, .slice A1 n1 c1, .slice A2 n2 c2, .string x.label_] = w3 at HF2 HW2 HZ2 ⊢))
      go_roundw
      case rel => exact ⟨j + 1, by omega, by go_num, HW2, HZ2, HF2⟩
      case measure => simp [intOf]; omega
    · have HN : Hid (j = n) := by show _ = _; omega
      go_wp2_with fail
      go_ret
      have h := HJ.out
      rw [HN.out] at h
      exact ⟨rfl, Lib.hid ⟨h.all HR.out.1 HR.out.2.1, HW.out, h.det HR.out.1 HR.out.2.1⟩⟩
end Go.Proofs.YtflhjcdabbomiaaDoor

namespace Go.Proofs.YtflhjcdabbomiaaDoor
open Go Go.RowKit

/-- Its lists are rows of one's own. -/
def RtVO (w : World) (B : Nat) (x : Rt) (l : RtLay) : Prop := StIO w B l.A1 l.n1 x.fields_ ∧ x.name_.size ≤ maxLen
theorem RtVO.below {w w' : World} {B : Nat} {x : Rt} {l : RtLay} (h : RtVO w B x l) (hb : Below B w w') : RtVO w' B x l := by
  obtain ⟨a0, a1⟩ := h
  exact ⟨a0.below hb, a1⟩
theorem RtVO.more {w : World} {B B' : Nat} {x : Rt} {l : RtLay} (h : RtVO w B x l) (hB : B ≤ B') : RtVO w B' x l := by
  obtain ⟨a0, a1⟩ := h
  exact ⟨a0.more hB, a1⟩
theorem RtVO.toV {w : World} {B : Nat} {x : Rt} {l : RtLay} (h : RtVO w B x l) : RtV w B x l := by
  obtain ⟨a0, a1⟩ := h
  exact ⟨a0.1, a1⟩
/-- A slice of them that lies below B: a row of one's own. -/
def RtIO (w : World) (B : Nat) (A : Option Addr) (n : Nat) (xs : List Rt) : Prop :=
  xs.length = n ∧ n ≤ maxLen ∧ (0 < n → ∃ g cs, A = some ⟨g, 0, none⟩ ∧ g < B ∧ RW 83 w g cs ∧ n * 2 ≤ cs.size ∧ ∀ (j : Nat) (x : Rt), xs[j]? = some x → ∃ l, (∀ (q : Nat) (v : Value), (x.vs l)[q]? = some v → cs[j * 2 + q]? = some v) ∧ RtVO w B x l ∧ (∀ a, l.A1 = some a → g < a.block))
theorem RtIO.below {w w' : World} {B n : Nat} {A : Option Addr} {xs : List Rt} (h : RtIO w B A n xs) (hb : Below B w w') : RtIO w' B A n xs :=
  ⟨h.1, h.2.1, fun hn => by
    obtain ⟨g, cs, e, hg, hr, hc, hm⟩ := h.2.2 hn
    refine ⟨g, cs, e, hg, hr.below hb hg, hc, fun j x hx => ?_⟩
    obtain ⟨l, h1, h2, h3⟩ := hm j x hx
    exact ⟨l, h1, h2.below hb, h3⟩⟩
theorem RtIO.more {w : World} {B B' n : Nat} {A : Option Addr} {xs : List Rt} (h : RtIO w B A n xs) (hB : B ≤ B') : RtIO w B' A n xs :=
  ⟨h.1, h.2.1, fun hn => by
    obtain ⟨g, cs, e, hg, hr, hc, hm⟩ := h.2.2 hn
    refine ⟨g, cs, e, by omega, hr, hc, fun j x hx => ?_⟩
    obtain ⟨l, h1, h2, h3⟩ := hm j x hx
    exact ⟨l, h1, h2.more hB, h3⟩⟩
theorem RtIO.toI {w : World} {B n : Nat} {A : Option Addr} {xs : List Rt} (h : RtIO w B A n xs) : RtI w B A n xs :=
  ⟨h.1, h.2.1, fun hn => by
    obtain ⟨g, cs, e, hg, hr, hc, hm⟩ := h.2.2 hn
    refine ⟨g, 0, e, hg, fun j x hx => ?_⟩
    obtain ⟨l, h1, h2, _⟩ := hm j x hx
    rw [Nat.zero_add]
    exact ⟨l, ⟨(hr.cell _).trans (h1 0 _ rfl), (hr.cell _).trans (h1 1 _ rfl)⟩, h2.toV⟩⟩

/-- What toRecordType answers. -/
def ToRtO (x : Rt) (W : World) (e : Ending) (w' : World) : Prop := ∃ l, e = .returned (x.ag l) ∧ Hid (RtVO w' w'.heap.size x l ∧ Below W.heap.size W w' ∧ l.n1 = x.fields_.length ∧ ∃ b1, l.A1 = some ⟨b1, 0, none⟩ ∧ W.heap.size ≤ b1)

set_option maxHeartbeats 2000000 in
set_option maxRecDepth 100000 in
theorem toRecordType_own (x : Rt) (l : RtLay) (W : World) (ho : RtV W W.heap.size x l) (hsm : RtSmall x) :
    Calls Tryd.prog 52 #[x.ag l] W (ToRtO x W) := by
  obtain ⟨x0, x1⟩ := x
  obtain ⟨A1, n1, c1, h1⟩ := l
  obtain ⟨k1, k0⟩ := ho
  have s1 := hsm
  try unfold RtVO at k1 k0
  try unfold RtSmall at s1
  dsimp only at k1 k0 s1
  rw [k1.1] at s1
  have HK1 := Lib.hid k1
  have HS1 := Lib.hid s1
  have HT0 := Lib.hid k0
  clear k1 k0 s1
  have HC := Lib.hid (fun (X Y : World) (T T' : TypeId) (c c' : Array Value) (eY : Y = W.alloc (.cells #[.string x0, .slice A1 n1 c1] T)) (eX : X = (Y.alloc (.cells c T')).alloc (.cells c' T')) =>
    (show RW T X W.heap.size #[.string x0, .slice A1 n1 c1] ∧ RW T' X (W.heap.size + 1 + 1) c' ∧ RW T' X (W.heap.size + 1) c ∧ Below W.heap.size W X ∧ X.heap.size = W.heap.size + 3 from by
      subst eX; subst eY
      refine ⟨((RW.new W _ T).alloc _).alloc _, ?_, ?_, ((below_alloc _ _).alloc (by simp) _).alloc (by simp; omega) _, by simp⟩
      · have := RW.new ((W.alloc (.cells #[.string x0, .slice A1 n1 c1] T)).alloc (.cells c T')) c' T'
        simpa using this
      · have := (RW.new (W.alloc (.cells #[.string x0, .slice A1 n1 c1] T)) c T').alloc (.cells c' T')
        simpa using this))
  show Calls Tryd.prog 52 #[.agg #[.string x0, .slice A1 n1 c1]] W _
  go_enter Tryd.func52, Tryd.ntmps52
  go_wp2_with (go_at_call 13; obtain ⟨g0, g1, g4, g2, g3⟩ := HC.out _ _ _ _ _ _ rfl rfl; have HQ := toStringS_own A1 n1 c1 x1 _ (HK1.out.go g2) HS1.out; refine Calls.mono HQ ?_; clear HQ; rintro e w1 ⟨rfl, h⟩; obtain ⟨hv, hb⟩ := h.out; have hd := hv.det; rw [g3] at hv hd; have HA1 := Lib.hid (g0.below hb (by omega)); have HR1 := Lib.hid (g1.below hb (by omega)); have HO1 := Lib.hid (g4.below hb (by omega)); have HB1 := Lib.hid (g2.trans (hb.mono g2.size)); have HV1_1 : Hid (Det (W.heap.size + 1 + 1 + 1) w1.heap.size w1 fun w => StIO w w1.heap.size (some ⟨W.heap.size + 1 + 1 + 1, 0, none⟩) n1 x1) := hd; have HG1 : Hid (W.heap.size + 3 ≤ w1.heap.size) := (by have := hb.size; show _ ≤ _; omega); clear g0 g1 g2 g3 g4 h hv hd hb HK1; have p11 : w1.cell? ⟨W.heap.size + 1 + 1, 1, none⟩ = some (.slice none 0 0) := HR1.out.cell 1; have f11 := HR1.out.frozen 1; have p10 : w1.cell? ⟨W.heap.size + 1 + 1, 0, none⟩ = some (.string x0) := HR1.out.cell 0; have r0 : w1.cell? ⟨W.heap.size + 1, 0, none⟩ = some (.string ⟨#[]⟩) := HO1.out.cell 0; have z0 := HO1.out.frozen 0; have r1 : w1.cell? ⟨W.heap.size + 1, 1, none⟩ = some (.slice none 0 0) := HO1.out.cell 1; have z1 := HO1.out.frozen 1)
  have hs1 := HG1.out
  have hb1 : Below (W.heap.size + 1) w1 (((w1.setCell ⟨W.heap.size + 1 + 1, 1, none⟩ (.slice (some ⟨W.heap.size + 1 + 1 + 1, 0, none⟩) n1 n1)).setCell ⟨W.heap.size + 1, 0, none⟩ (.string x0)).setCell ⟨W.heap.size + 1, 1, none⟩ (.slice (some ⟨W.heap.size + 1 + 1 + 1, 0, none⟩) n1 n1)) := (((below_set w1 (p := ⟨W.heap.size + 1 + 1, 1, none⟩) (by simp) _).setCell (by simp) _).setCell (by simp) _)
  have hzz : (((w1.setCell ⟨W.heap.size + 1 + 1, 1, none⟩ (.slice (some ⟨W.heap.size + 1 + 1 + 1, 0, none⟩) n1 n1)).setCell ⟨W.heap.size + 1, 0, none⟩ (.string x0)).setCell ⟨W.heap.size + 1, 1, none⟩ (.slice (some ⟨W.heap.size + 1 + 1 + 1, 0, none⟩) n1 n1)).heap.size = w1.heap.size := by simp [World.setCell]
  refine bodyPost_ret (v := .agg #[.string x0, .slice (some ⟨W.heap.size + 1 + 1 + 1, 0, none⟩) n1 n1]) (results_cell_row Tryd.results52 _ _ (W.heap.size + 1) 83 _ (0, 0) _ rfl ((((((HO1.out).other (p := ⟨W.heap.size + 1 + 1, 1, none⟩) (by simp) (.slice (some ⟨W.heap.size + 1 + 1 + 1, 0, none⟩) n1 n1))).set_ 0 (.string x0))).set_ 1 (.slice (some ⟨W.heap.size + 1 + 1 + 1, 0, none⟩) n1 n1)) Tryd.underlying83 rfl (by kernel_rfl)) rfl ⟨⟨some ⟨W.heap.size + 1 + 1 + 1, 0, none⟩, n1, n1, Nat.le_refl _⟩, rfl, Lib.hid ⟨?_, HB1.out.trans (hb1.mono (by omega)), HV1_1.out.self.1.1.symm, _, rfl, by omega⟩⟩
  show RtVO (((w1.setCell ⟨W.heap.size + 1 + 1, 1, none⟩ (.slice (some ⟨W.heap.size + 1 + 1 + 1, 0, none⟩) n1 n1)).setCell ⟨W.heap.size + 1, 0, none⟩ (.string x0)).setCell ⟨W.heap.size + 1, 1, none⟩ (.slice (some ⟨W.heap.size + 1 + 1 + 1, 0, none⟩) n1 n1)) (((w1.setCell ⟨W.heap.size + 1 + 1, 1, none⟩ (.slice (some ⟨W.heap.size + 1 + 1 + 1, 0, none⟩) n1 n1)).setCell ⟨W.heap.size + 1, 0, none⟩ (.string x0)).setCell ⟨W.heap.size + 1, 1, none⟩ (.slice (some ⟨W.heap.size + 1 + 1 + 1, 0, none⟩) n1 n1)).heap.size ⟨x0, x1⟩ ⟨some ⟨W.heap.size + 1 + 1 + 1, 0, none⟩, n1, n1, Nat.le_refl _⟩
  rw [hzz]
  exact ⟨((((((HV1_1.out).set (p := ⟨W.heap.size + 1 + 1, 1, none⟩) (by first | (dsimp only; omega) | omega) _)).set (p := ⟨W.heap.size + 1, 0, none⟩) (by first | (dsimp only; omega) | omega) _)).set (p := ⟨W.heap.size + 1, 1, none⟩) (by first | (dsimp only; omega) | omega) _).self, HT0.out⟩

/-- The elements of block g ahead of j are filled; their lists lie elsewhere. -/
def FilledRtO (w : World) (g j n : Nat) (xs : List Rt) : Prop :=
  ∃ cs, RW 83 w g cs ∧ n * 2 ≤ cs.size ∧ ∀ (i : Nat) (x : Rt), i < j → xs[i]? = some x → ∃ l b1, l.A1 = some ⟨b1, 0, none⟩ ∧ g < b1 ∧ RtVO w w.heap.size x l ∧ ∀ (q : Nat) (v : Value), (x.vs l)[q]? = some v → cs[i * 2 + q]? = some v
theorem FilledRtO.below {w w' : World} {g j n : Nat} {xs : List Rt} (h : FilledRtO w g j n xs) (hb : Below w.heap.size w w') : FilledRtO w' g j n xs := by
  obtain ⟨cs, hr, hn, hm⟩ := h
  refine ⟨cs, hr.below hb hr.lt, hn, fun i x hi hx => ?_⟩
  obtain ⟨l, b1, h1, u1, h5, h6⟩ := hm i x hi hx
  exact ⟨l, b1, h1, u1, (h5.below hb).more hb.size, h6⟩
theorem RtVO.others {w : World} {B g o : Nat} {x : Rt} {l : RtLay} {b1 : Nat} (h : RtVO w B x l) (h1 : l.A1 = some ⟨b1, 0, none⟩) (u1 : b1 ≠ g) (vs : List Value) : RtVO (w.setCells g o vs) B x l := by
  obtain ⟨a0, a1⟩ := h
  try unfold RtVO at a0 a1 ⊢
  rw [h1] at a0
  refine ⟨?_, a1⟩
  · rw [h1]; exact a0.others u1
theorem size_setsRtO (vs : List Value) (w : World) (g k : Nat) : (w.setCells g k vs).heap.size = w.heap.size := by
  induction vs generalizing w k with
  | nil => rfl
  | cons v r ih => exact (ih _ _).trans (size_set _ _ _)
theorem FilledRtO.store {w : World} {g j n : Nat} {xs : List Rt} {x : Rt} {l : RtLay} {b1 : Nat} (h : FilledRtO w g j n xs) (hx : xs[j]? = some x) (hj : j < n) (h1 : l.A1 = some ⟨b1, 0, none⟩) (u1 : g < b1) (h5 : RtVO w w.heap.size x l) :
    FilledRtO (w.setCells g (j * 2) (x.vs l)) g (j + 1) n xs := by
  obtain ⟨cs, hr, hn, hm⟩ := h
  have hs : (w.setCells g (j * 2) (x.vs l)).heap.size = w.heap.size := size_setsRtO _ _ _ _
  have hlK : (x.vs l).length = 2 := rfl
  refine ⟨_, hr.cells, by rw [putL_size]; exact hn, fun i y hi hy => ?_⟩
  by_cases e : i = j
  · subst e
    rw [hx, Option.some.injEq] at hy
    subst hy
    refine ⟨l, b1, h1, u1, ?_, fun q v hq => putL_new _ _ _ _ _ (by rw [hlK]; omega) hq⟩
    rw [hs]
    exact h5.others h1 (by omega) _
  · obtain ⟨l', b1', j1, v1, k5, k6⟩ := hm i y (by omega) hy
    refine ⟨l', b1', j1, v1, ?_, fun q v hq => ?_⟩
    · rw [hs]
      exact k5.others j1 (by omega) _
    · have hqK : q < 2 := (List.getElem?_eq_some_iff.1 hq).1
      rw [putL_old _ _ _ _ (by omega)]
      exact k6 q v hq
theorem FilledRtO.all {w : World} {g n : Nat} {xs : List Rt} (h : FilledRtO w g n n xs) (hl : xs.length = n) (hn : n ≤ maxLen) : RtIO w w.heap.size (some ⟨g, 0, none⟩) n xs := by
  obtain ⟨cs, hr, hc, hm⟩ := h
  refine ⟨hl, hn, fun _ => ⟨g, cs, rfl, hr.lt, hr, hc, fun j x hx => ?_⟩⟩
  obtain ⟨l, b1, h1, u1, h5, h6⟩ := hm j x (by rw [← hl]; exact (List.getElem?_eq_some_iff.1 hx).1) hx
  exact ⟨l, h6, h5, fun a ha => by rw [h1] at ha; cases ha; exact u1⟩
theorem FilledRtO.det {w : World} {g n : Nat} {xs : List Rt} (h : FilledRtO w g n n xs) (hl : xs.length = n) (hn : n ≤ maxLen) : Det g w.heap.size w fun w' => RtIO w' w.heap.size (some ⟨g, 0, none⟩) n xs := by
  intro w' hk
  obtain ⟨cs, hr, hc, hm⟩ := h
  have hr' : RW 83 w' g cs := (hk g (Nat.le_refl _) hr.lt).trans hr
  refine ⟨hl, hn, fun _ => ⟨g, cs, rfl, hr.lt, hr', hc, fun j x hx => ?_⟩⟩
  obtain ⟨l, b1, h1, u1, h5, h6⟩ := hm j x (by rw [← hl]; exact (List.getElem?_eq_some_iff.1 hx).1) hx
  obtain ⟨a0, a1⟩ := h5
  exact ⟨l, h6, ⟨by rw [h1] at a0 ⊢; exact a0.det w' fun g' k1 k2 => hk g' (by omega) k2, a1⟩, fun a ha => by rw [h1] at ha; cases ha; exact u1⟩
theorem infoRtO : (Tryd.prog.info? 83).map (fun i => (i.zero, i.size, i.bytes)) = some (some (Value.agg #[.string ⟨#[]⟩, .slice none 0 0]), 2, 40) := by kernel_rfl
theorem ownRtO {w : World} {B g n : Nat} {xs : List Value} (h : w.ownsRow B 83 2 (.slice (some ⟨g, 0, none⟩) n n) n xs) : ∃ cs, RW 83 w g cs ∧ n * 2 ≤ cs.size := by
  rcases h.2 with ⟨h', _⟩ | ⟨g', cap', cur, h', _, hg, _, _, hsz, _⟩
  · simp at h'
  · simp only [Value.slice.injEq, Option.some.injEq, Addr.mk.injEq, and_true, true_and] at h'
    obtain ⟨rfl, rfl⟩ := h'
    exact ⟨cur, hg, by omega⟩
/-- What toRecordTypeS answers. -/
def ToRtSO (xs : List Rt) (n : Nat) (W : World) (e : Ending) (w' : World) : Prop :=
  e = .returned (.slice (some ⟨W.heap.size, 0, none⟩) n n) ∧ Hid (RtIO w' w'.heap.size (some ⟨W.heap.size, 0, none⟩) n xs ∧ Below W.heap.size W w' ∧ Det W.heap.size w'.heap.size w' fun w => RtIO w w'.heap.size (some ⟨W.heap.size, 0, none⟩) n xs)

set_option maxHeartbeats 2000000 in
set_option maxRecDepth 100000 in
theorem toRecordTypeS_own (A : Option Addr) (n c : Nat) (xs : List Rt) (W : World) (hr : RtI W W.heap.size A n xs) (hs : ∀ (j : Nat) (x : Rt), xs[j]? = some x → RtSmall x) (hn : n ≤ 1048576) :
    Calls Tryd.prog 29 #[.slice A n c] W (ToRtSO xs n W) := by
  obtain ⟨i0, hi, hz0, hz1, hz2⟩ := info_parts infoRtO
  have HR := Lib.hid hr
  have HS := Lib.hid hs
  have h1 : (n : Int) ≤ 1048576 := by omega
  clear hr hs
  go_enter Tryd.func29, Tryd.ntmps29
  go_wp2_with (at_make; refine wpList_make_full _ rfl _ _ 34 rfl W.heap.size 83 i0 (.agg #[.string ⟨#[]⟩, .slice none 0 0]) 2 Tryd.underlying34 hi hz0 hz1 .i64 .i64 n n n rfl rfl rfl rfl (by rw [hz2]; omega) (by unfold maxLen; omega) (Nat.le_refl _) ?_)
  intro w1 hown hgrow
  have HB1 : Hid (Below W.heap.size W w1) := below_grown_none hgrow
  obtain ⟨cs, hcs, hcn⟩ := ownRtO hown
  have HG : Hid (W.heap.size < w1.heap.size) := hcs.lt
  have HM : Hid (FilledRtO w1 W.heap.size 0 n xs) := ⟨cs, hcs, hcn, fun i x hi => absurd hi (by omega)⟩
  clear hown hgrow hcs hcn hi hz0 hz1 hz2
  go_wp2_with fail
  go_loopw [4] (fun i wr => ∃ j : Nat, j ≤ n ∧ i = .int .i64 j ∧ Hid (Below W.heap.size W wr) ∧ Hid (W.heap.size < wr.heap.size) ∧ Hid (FilledRtO wr W.heap.size j n xs)) (fun i _ => n - (intOf i).toNat)
  case atStart => exact ⟨0, Nat.zero_le _, rfl, HB1, HG, HM⟩
  case round =>
    obtain ⟨j, hj, rfl, HW, HZ, HJ⟩ := hrel
    by_cases hlt : j < n
    · obtain ⟨b, off, x, l, rfl, hg, hx, ⟨q0, q1⟩, hov⟩ := (HR.out.below HW.out).at_ hlt
      have HX := Lib.hid hx
      have HO := Lib.hid (hov.more HW.out.size)
      have HLT := Lib.hid hlt
      have HS1 := Lib.hid (HS.out j x hx)
      clear hx hov hg
      have b0 : (0 : Int) ≤ (j : Int) := by omega
      have b1 : (j : Int) < (n : Int) := by omega
      go_wp2_with (first | (go_at_call 52; have HQ := toRecordType_own x l _ HO.out HS1.out; refine Calls.mono HQ ?_; clear HQ; rintro e w2 ⟨⟨A1, n1, c1, h1⟩, rfl, h⟩; obtain ⟨g1, hb, en1, b1, e1, g1g⟩ := h.out; clear en1; have HF := Lib.hid (HJ.out.below hb); have hlt2 := HLT.out; have hzz := HZ.out; have HF2 : Hid (FilledRtO (w2.setCells W.heap.size (j * 2) [.string x.name_, .slice A1 n1 c1]) W.heap.size (j + 1) n xs) := (by have k := HF.out.store HX.out hlt2 e1 (Nat.lt_of_lt_of_le hzz g1g) g1; unfold Rt.vs at k; exact k); have HT : Hid (w2.there W.heap.size (j * 2) 2) := (by obtain ⟨cs, hr, hc, _⟩ := HF.out; exact hr.there (by omega)); have HW2 : Hid (Below W.heap.size W (w2.setCells W.heap.size (j * 2) [.string x.name_, .slice A1 n1 c1])) := ((HW.out.trans (hb.mono HW.out.size)).trans (below_cells (Nat.le_refl _) _ _ _)); have HZ2 : Hid (W.heap.size < (w2.setCells W.heap.size (j * 2) [.string x.name_, .slice A1 n1 c1]).heap.size) := (by obtain ⟨_, hr, _⟩ := HF2.out; exact hr.lt); have tk1 : True := trivial; clear h g1 hb e1 g1g hlt2 hzz q0 q1) | (clear tk1; refine wpList_store_mid rfl 83 (.tmp 21) (.tmp 20) rfl W.heap.size (j * 2) _ rfl rfl HT.out (by kernel_rfl) (by kernel_rfl) ?_; go_frame; clear HT; generalize w2.setCells W.heap.size (j * 2) [.string x.name_, .slice A1 n1 c1] = w3 at HF2 HW2 HZ2 ⊢))
      go_roundw
      case rel => exact ⟨j + 1, by omega, by go_num, HW2, HZ2, HF2⟩
      case measure => simp [intOf]; omega
    · have HN : Hid (j = n) := by show _ = _; omega
      go_wp2_with fail
      go_ret
      have h := HJ.out
      rw [HN.out] at h
      exact ⟨rfl, Lib.hid ⟨h.all HR.out.1 HR.out.2.1, HW.out, h.det HR.out.1 HR.out.2.1⟩⟩
end Go.Proofs.YtflhjcdabbomiaaDoor

namespace Go.Proofs.YtflhjcdabbomiaaDoor
open Go Go.RowKit

/-- Its lists are rows of one's own. -/
def ScVO (w : World) (B : Nat) (x : Sc) (l : ScLay) : Prop := BdIO w B l.A0 l.n0 x.vars_ ∧ FnIO w B l.A1 l.n1 x.functions_ ∧ RtIO w B l.A2 l.n2 x.types_
theorem ScVO.below {w w' : World} {B : Nat} {x : Sc} {l : ScLay} (h : ScVO w B x l) (hb : Below B w w') : ScVO w' B x l := ⟨h.1.below hb, h.2.1.below hb, h.2.2.below hb⟩
theorem ScVO.more {w : World} {B B' : Nat} {x : Sc} {l : ScLay} (h : ScVO w B x l) (hB : B ≤ B') : ScVO w B' x l := ⟨h.1.more hB, h.2.1.more hB, h.2.2.more hB⟩
theorem ScVO.toV {w : World} {B : Nat} {x : Sc} {l : ScLay} (h : ScVO w B x l) : ScV w B x l := ⟨h.1.1, h.2.1.toI, h.2.2.toI⟩

/-- What toScope answers. -/
def ToScO (x : Sc) (W : World) (e : Ending) (w' : World) : Prop := ∃ l, e = .returned (x.ag l) ∧ Hid (Det W.heap.size w'.heap.size w' (fun w => ScVO w w'.heap.size x l) ∧ Below W.heap.size W w' ∧ ∃ b0 b1 b2, l.A0 = some ⟨b0, 0, none⟩ ∧ l.A1 = some ⟨b1, 0, none⟩ ∧ l.A2 = some ⟨b2, 0, none⟩ ∧ W.heap.size ≤ b0 ∧ W.heap.size ≤ b1 ∧ W.heap.size ≤ b2)

set_option maxHeartbeats 2000000 in
set_option maxRecDepth 100000 in
theorem toScope_own (x : Sc) (l : ScLay) (W : World) (ho : ScV W W.heap.size x l) (hsm : ScSmall x) :
    Calls Tryd.prog 7 #[x.ag l] W (ToScO x W) := by
  obtain ⟨x0, x1, x2⟩ := x
  obtain ⟨A0, n0, c0, h0, A1, n1, c1, h1, A2, n2, c2, h2⟩ := l
  obtain ⟨k0, k1, k2⟩ := ho
  obtain ⟨s0, s1, s2⟩ := hsm
  try unfold ScVO at k0 k1 k2
  try unfold ScSmall at s0 s1 s2
  dsimp only at k0 k1 k2 s0 s1 s2
  rw [k0.1] at s0
  have HK0 := Lib.hid k0
  have HS0 := Lib.hid s0
  rw [k1.1] at s1
  have HK1 := Lib.hid k1
  have HS1 := Lib.hid s1
  rw [k2.1] at s2
  have HK2 := Lib.hid k2
  have HS2 := Lib.hid s2
  clear k0 k1 k2 s0 s1 s2
  have HC := Lib.hid (fun (X Y : World) (T T' : TypeId) (c c' : Array Value) (eY : Y = W.alloc (.cells #[.slice A0 n0 c0, .slice A1 n1 c1, .slice A2 n2 c2] T)) (eX : X = (Y.alloc (.cells c T')).alloc (.cells c' T')) =>
    (show RW T X W.heap.size #[.slice A0 n0 c0, .slice A1 n1 c1, .slice A2 n2 c2] ∧ RW T' X (W.heap.size + 1 + 1) c' ∧ RW T' X (W.heap.size + 1) c ∧ Below W.heap.size W X ∧ X.heap.size = W.heap.size + 3 from by
      subst eX; subst eY
      refine ⟨((RW.new W _ T).alloc _).alloc _, ?_, ?_, ((below_alloc _ _).alloc (by simp) _).alloc (by simp; omega) _, by simp⟩
      · have := RW.new ((W.alloc (.cells #[.slice A0 n0 c0, .slice A1 n1 c1, .slice A2 n2 c2] T)).alloc (.cells c T')) c' T'
        simpa using this
      · have := (RW.new (W.alloc (.cells #[.slice A0 n0 c0, .slice A1 n1 c1, .slice A2 n2 c2] T)) c T').alloc (.cells c' T')
        simpa using this))
  show Calls Tryd.prog 7 #[.agg #[.slice A0 n0 c0, .slice A1 n1 c1, .slice A2 n2 c2]] W _
  go_enter Tryd.func7, Tryd.ntmps7
  go_wp2_with (go_at_call 27; obtain ⟨g0, g1, g4, g2, g3⟩ := HC.out _ _ _ _ _ _ rfl rfl; have HQ := toBindingS_own A0 n0 c0 x0 _ (HK0.out.go g2) HS0.out; refine Calls.mono HQ ?_; clear HQ; rintro e w1 ⟨rfl, h⟩; obtain ⟨hv, hb⟩ := h.out; have hd := hv.det; rw [g3] at hv hd; have HA1 := Lib.hid (g0.below hb (by omega)); have HR1 := Lib.hid (g1.below hb (by omega)); have HO1 := Lib.hid (g4.below hb (by omega)); have HB1 := Lib.hid (g2.trans (hb.mono g2.size)); have HV1_0 : Hid (Det (W.heap.size + 1 + 1 + 1) w1.heap.size w1 fun w => BdIO w w1.heap.size (some ⟨W.heap.size + 1 + 1 + 1, 0, none⟩) n0 x0) := hd; have HG1 : Hid (W.heap.size + 3 ≤ w1.heap.size) := (by have := hb.size; show _ ≤ _; omega); clear g0 g1 g2 g3 g4 h hv hd hb HK0; have q11 : w1.cell? ⟨W.heap.size, 1, none⟩ = some (.slice A1 n1 c1) := HA1.out.cell 1; have p10 : w1.cell? ⟨W.heap.size + 1 + 1, 0, none⟩ = some (.slice none 0 0) := HR1.out.cell 0; have f10 := HR1.out.frozen 0)
  go_wp2_with (go_at_call 28; have hbs : Below (W.heap.size + 2) w1 (w1.setCell ⟨W.heap.size + 1 + 1, 0, none⟩ (.slice (some ⟨W.heap.size + 1 + 1 + 1, 0, none⟩) n0 n0)) := below_set w1 (p := ⟨W.heap.size + 1 + 1, 0, none⟩) (B := W.heap.size + 2) (Nat.le_refl _) (.slice (some ⟨W.heap.size + 1 + 1 + 1, 0, none⟩) n0 n0); have hzz : (w1.setCell ⟨W.heap.size + 1 + 1, 0, none⟩ (.slice (some ⟨W.heap.size + 1 + 1 + 1, 0, none⟩) n0 n0)).heap.size = w1.heap.size := (by simp [World.setCell]); have HQ := toFunctionS_own A1 n1 c1 x1 (w1.setCell ⟨W.heap.size + 1 + 1, 0, none⟩ (.slice (some ⟨W.heap.size + 1 + 1 + 1, 0, none⟩) n0 n0)) (HK1.out.go (HB1.out.trans (hbs.mono (by omega)))) HS1.out.1 HS1.out.2; refine Calls.mono HQ ?_; clear HQ; rintro e w2 ⟨rfl, h⟩; obtain ⟨hv, hb, hd⟩ := h.out; rw [hzz] at hb hv hd; have hsz := hb.size; rw [hzz] at hsz; have hs1 := HG1.out; have HA2 := Lib.hid ((HA1.out.below hbs (by omega)).below hb (by omega)); have HR2 := Lib.hid (((HR1.out).set_ 0 (.slice (some ⟨W.heap.size + 1 + 1 + 1, 0, none⟩) n0 n0)).below hb (by omega)); have HO2 := Lib.hid ((HO1.out.below hbs (by omega)).below hb (by omega)); have HB2 := Lib.hid ((HB1.out.trans (hbs.mono (by omega))).trans (hb.mono (by omega))); have HG2 : Hid (W.heap.size + 3 ≤ w2.heap.size) := (Nat.le_trans hs1 hsz); have HV2_1 : Hid (Det (w1.heap.size) w2.heap.size w2 fun w => FnIO w w2.heap.size (some ⟨w1.heap.size, 0, none⟩) n1 x1) := hd; have HZ2 : Hid (w1.heap.size ≠ W.heap.size + 1 + 1) := (by show _ ≠ _; omega); have HV2_0 := Lib.hid (((((HV1_0.out).set (p := ⟨W.heap.size + 1 + 1, 0, none⟩) (by have := HG1.out; dsimp only; omega) (.slice (some ⟨W.heap.size + 1 + 1 + 1, 0, none⟩) n0 n0)).below hb (by omega)).wide (Nat.le_refl _) hsz).imp fun w h => h.more hsz); clear hbs hzz hb hv hd h hsz hs1 HK1; have q22 : w2.cell? ⟨W.heap.size, 2, none⟩ = some (.slice A2 n2 c2) := HA2.out.cell 2; have p21 : w2.cell? ⟨W.heap.size + 1 + 1, 1, none⟩ = some (.slice none 0 0) := HR2.out.cell 1; have f21 := HR2.out.frozen 1)
  go_wp2_with (go_at_call 29; have hbs : Below (W.heap.size + 2) w2 (w2.setCell ⟨W.heap.size + 1 + 1, 1, none⟩ (.slice (some ⟨w1.heap.size, 0, none⟩) n1 n1)) := below_set w2 (p := ⟨W.heap.size + 1 + 1, 1, none⟩) (B := W.heap.size + 2) (Nat.le_refl _) (.slice (some ⟨w1.heap.size, 0, none⟩) n1 n1); have hzz : (w2.setCell ⟨W.heap.size + 1 + 1, 1, none⟩ (.slice (some ⟨w1.heap.size, 0, none⟩) n1 n1)).heap.size = w2.heap.size := (by simp [World.setCell]); have HQ := toRecordTypeS_own A2 n2 c2 x2 (w2.setCell ⟨W.heap.size + 1 + 1, 1, none⟩ (.slice (some ⟨w1.heap.size, 0, none⟩) n1 n1)) (HK2.out.go (HB2.out.trans (hbs.mono (by omega)))) HS2.out.1 HS2.out.2; refine Calls.mono HQ ?_; clear HQ; rintro e w3 ⟨rfl, h⟩; obtain ⟨hv, hb, hd⟩ := h.out; rw [hzz] at hb hv hd; have hsz := hb.size; rw [hzz] at hsz; have hs1 := HG2.out; have HA3 := Lib.hid ((HA2.out.below hbs (by omega)).below hb (by omega)); have HR3 := Lib.hid (((HR2.out).set_ 1 (.slice (some ⟨w1.heap.size, 0, none⟩) n1 n1)).below hb (by omega)); have HO3 := Lib.hid ((HO2.out.below hbs (by omega)).below hb (by omega)); have HB3 := Lib.hid ((HB2.out.trans (hbs.mono (by omega))).trans (hb.mono (by omega))); have HG3 : Hid (W.heap.size + 3 ≤ w3.heap.size) := (Nat.le_trans hs1 hsz); have HV3_2 : Hid (Det (w2.heap.size) w3.heap.size w3 fun w => RtIO w w3.heap.size (some ⟨w2.heap.size, 0, none⟩) n2 x2) := hd; have HZ3 : Hid (w2.heap.size ≠ W.heap.size + 1 + 1) := (by show _ ≠ _; omega); have HV3_0 := Lib.hid (((((HV2_0.out).set (p := ⟨W.heap.size + 1 + 1, 1, none⟩) (by have := HG2.out; dsimp only; omega) (.slice (some ⟨w1.heap.size, 0, none⟩) n1 n1)).below hb (by omega)).wide (Nat.le_refl _) hsz).imp fun w h => h.more hsz); have HV3_1 := Lib.hid (((((HV2_1.out).set (p := ⟨W.heap.size + 1 + 1, 1, none⟩) (by have := HG1.out; dsimp only; omega) (.slice (some ⟨w1.heap.size, 0, none⟩) n1 n1)).below hb (by omega)).wide (Nat.le_refl _) hsz).imp fun w h => h.more hsz); clear hbs hzz hb hv hd h hsz hs1 HK2; have p32 : w3.cell? ⟨W.heap.size + 1 + 1, 2, none⟩ = some (.slice none 0 0) := HR3.out.cell 2; have f32 := HR3.out.frozen 2; have p30 : w3.cell? ⟨W.heap.size + 1 + 1, 0, none⟩ = some (.slice (some ⟨W.heap.size + 1 + 1 + 1, 0, none⟩) n0 n0) := HR3.out.cell 0; have p31 : w3.cell? ⟨W.heap.size + 1 + 1, 1, none⟩ = some (.slice (some ⟨w1.heap.size, 0, none⟩) n1 n1) := HR3.out.cell 1; have r0 : w3.cell? ⟨W.heap.size + 1, 0, none⟩ = some (.slice none 0 0) := HO3.out.cell 0; have z0 := HO3.out.frozen 0; have r1 : w3.cell? ⟨W.heap.size + 1, 1, none⟩ = some (.slice none 0 0) := HO3.out.cell 1; have z1 := HO3.out.frozen 1; have r2 : w3.cell? ⟨W.heap.size + 1, 2, none⟩ = some (.slice none 0 0) := HO3.out.cell 2; have z2 := HO3.out.frozen 2)
  have hs1 := HG3.out
  have hb1 : Below (W.heap.size + 1) w3 ((((w3.setCell ⟨W.heap.size + 1 + 1, 2, none⟩ (.slice (some ⟨w2.heap.size, 0, none⟩) n2 n2)).setCell ⟨W.heap.size + 1, 0, none⟩ (.slice (some ⟨W.heap.size + 1 + 1 + 1, 0, none⟩) n0 n0)).setCell ⟨W.heap.size + 1, 1, none⟩ (.slice (some ⟨w1.heap.size, 0, none⟩) n1 n1)).setCell ⟨W.heap.size + 1, 2, none⟩ (.slice (some ⟨w2.heap.size, 0, none⟩) n2 n2)) := ((((below_set w3 (p := ⟨W.heap.size + 1 + 1, 2, none⟩) (by simp) _).setCell (by simp) _).setCell (by simp) _).setCell (by simp) _)
  have hzz : ((((w3.setCell ⟨W.heap.size + 1 + 1, 2, none⟩ (.slice (some ⟨w2.heap.size, 0, none⟩) n2 n2)).setCell ⟨W.heap.size + 1, 0, none⟩ (.slice (some ⟨W.heap.size + 1 + 1 + 1, 0, none⟩) n0 n0)).setCell ⟨W.heap.size + 1, 1, none⟩ (.slice (some ⟨w1.heap.size, 0, none⟩) n1 n1)).setCell ⟨W.heap.size + 1, 2, none⟩ (.slice (some ⟨w2.heap.size, 0, none⟩) n2 n2)).heap.size = w3.heap.size := by simp [World.setCell]
  refine bodyPost_ret (v := .agg #[.slice (some ⟨W.heap.size + 1 + 1 + 1, 0, none⟩) n0 n0, .slice (some ⟨w1.heap.size, 0, none⟩) n1 n1, .slice (some ⟨w2.heap.size, 0, none⟩) n2 n2]) (results_cell_row Tryd.results7 _ _ (W.heap.size + 1) 36 _ (0, 0) _ rfl ((((((((HO3.out).other (p := ⟨W.heap.size + 1 + 1, 2, none⟩) (by simp) (.slice (some ⟨w2.heap.size, 0, none⟩) n2 n2))).set_ 0 (.slice (some ⟨W.heap.size + 1 + 1 + 1, 0, none⟩) n0 n0))).set_ 1 (.slice (some ⟨w1.heap.size, 0, none⟩) n1 n1))).set_ 2 (.slice (some ⟨w2.heap.size, 0, none⟩) n2 n2)) Tryd.underlying36 rfl (by kernel_rfl)) rfl ⟨⟨some ⟨W.heap.size + 1 + 1 + 1, 0, none⟩, n0, n0, Nat.le_refl _, some ⟨w1.heap.size, 0, none⟩, n1, n1, Nat.le_refl _, some ⟨w2.heap.size, 0, none⟩, n2, n2, Nat.le_refl _⟩, rfl, Lib.hid ⟨?_, HB3.out.trans (hb1.mono (by omega)), _, _, _, rfl, rfl, rfl, by omega, by have := HG1.out; have := HG2.out; have := HG3.out; omega, by have := HG1.out; have := HG2.out; have := HG3.out; omega⟩⟩
  show Det W.heap.size ((((w3.setCell ⟨W.heap.size + 1 + 1, 2, none⟩ (.slice (some ⟨w2.heap.size, 0, none⟩) n2 n2)).setCell ⟨W.heap.size + 1, 0, none⟩ (.slice (some ⟨W.heap.size + 1 + 1 + 1, 0, none⟩) n0 n0)).setCell ⟨W.heap.size + 1, 1, none⟩ (.slice (some ⟨w1.heap.size, 0, none⟩) n1 n1)).setCell ⟨W.heap.size + 1, 2, none⟩ (.slice (some ⟨w2.heap.size, 0, none⟩) n2 n2)).heap.size ((((w3.setCell ⟨W.heap.size + 1 + 1, 2, none⟩ (.slice (some ⟨w2.heap.size, 0, none⟩) n2 n2)).setCell ⟨W.heap.size + 1, 0, none⟩ (.slice (some ⟨W.heap.size + 1 + 1 + 1, 0, none⟩) n0 n0)).setCell ⟨W.heap.size + 1, 1, none⟩ (.slice (some ⟨w1.heap.size, 0, none⟩) n1 n1)).setCell ⟨W.heap.size + 1, 2, none⟩ (.slice (some ⟨w2.heap.size, 0, none⟩) n2 n2)) (fun w => ScVO w ((((w3.setCell ⟨W.heap.size + 1 + 1, 2, none⟩ (.slice (some ⟨w2.heap.size, 0, none⟩) n2 n2)).setCell ⟨W.heap.size + 1, 0, none⟩ (.slice (some ⟨W.heap.size + 1 + 1 + 1, 0, none⟩) n0 n0)).setCell ⟨W.heap.size + 1, 1, none⟩ (.slice (some ⟨w1.heap.size, 0, none⟩) n1 n1)).setCell ⟨W.heap.size + 1, 2, none⟩ (.slice (some ⟨w2.heap.size, 0, none⟩) n2 n2)).heap.size ⟨x0, x1, x2⟩ ⟨some ⟨W.heap.size + 1 + 1 + 1, 0, none⟩, n0, n0, Nat.le_refl _, some ⟨w1.heap.size, 0, none⟩, n1, n1, Nat.le_refl _, some ⟨w2.heap.size, 0, none⟩, n2, n2, Nat.le_refl _⟩)
  rw [hzz]
  exact fun w' k => ⟨((((((((HV3_0.out).set (p := ⟨W.heap.size + 1 + 1, 2, none⟩) (by first | (dsimp only; omega) | omega) _)).set (p := ⟨W.heap.size + 1, 0, none⟩) (by first | (dsimp only; omega) | omega) _)).set (p := ⟨W.heap.size + 1, 1, none⟩) (by first | (dsimp only; omega) | omega) _)).set (p := ⟨W.heap.size + 1, 2, none⟩) (by first | (dsimp only; omega) | omega) _) w' (fun g h1 h2 => k g (by have := HG1.out; have := HG2.out; have := HG3.out; omega) h2), ((((((((HV3_1.out).set (p := ⟨W.heap.size + 1 + 1, 2, none⟩) (by have := HG1.out; first | (dsimp only; omega) | omega) _)).set (p := ⟨W.heap.size + 1, 0, none⟩) (by have := HG1.out; first | (dsimp only; omega) | omega) _)).set (p := ⟨W.heap.size + 1, 1, none⟩) (by have := HG1.out; first | (dsimp only; omega) | omega) _)).set (p := ⟨W.heap.size + 1, 2, none⟩) (by have := HG1.out; first | (dsimp only; omega) | omega) _) w' (fun g h1 h2 => k g (by have := HG1.out; have := HG2.out; have := HG3.out; omega) h2), ((((((((HV3_2.out).set (p := ⟨W.heap.size + 1 + 1, 2, none⟩) (by have := HG2.out; first | (dsimp only; omega) | omega) _)).set (p := ⟨W.heap.size + 1, 0, none⟩) (by have := HG2.out; first | (dsimp only; omega) | omega) _)).set (p := ⟨W.heap.size + 1, 1, none⟩) (by have := HG2.out; first | (dsimp only; omega) | omega) _)).set (p := ⟨W.heap.size + 1, 2, none⟩) (by have := HG2.out; first | (dsimp only; omega) | omega) _) w' (fun g h1 h2 => k g (by have := HG1.out; have := HG2.out; have := HG3.out; omega) h2)⟩

end Go.Proofs.YtflhjcdabbomiaaDoor

namespace Go.Proofs.YtflhjcdabbomiaaDoor
open Go Go.RowKit

set_option maxHeartbeats 2000000 in
set_option maxRecDepth 100000 in
theorem markStringS_mut (A : Option Addr) (n c k0 : Nat) (W : World) (hw : StW W A n) (h0 : 0 < k0) (hk : k0 + n ≤ 16777000) :
    Calls Tryd.prog 18 #[.slice A n c, .int .i64 k0] W fun e w' => e = .returned (.int .i64 ((k0 + n : Nat) : Int)) ∧ Mut (Blk1 A n) W w' := by
  rcases Nat.eq_zero_or_pos n with hn | hn
  · subst hn
    go_enter Tryd.func18, Tryd.ntmps18
    go_wp2
    go_loopw [1, 5] (fun q i wr => i = .int .i64 0 ∧ q = .int .i64 (k0 : Int) ∧ wr = W) (fun _ _ _ => 0)
    case atStart => exact ⟨rfl, rfl, rfl⟩
    case round =>
      obtain ⟨rfl, rfl, rfl⟩ := hrel
      go_wp2_with fail
      go_ret
      exact ⟨by simp, Mut.refl _ _⟩
  obtain ⟨g, cs, rfl, hs, hcs⟩ := hw hn
  have HSG : Hid (Blk1 (some ⟨g, 0, none⟩) n g) := ⟨hn, rfl⟩
  have HM : Hid (∃ cs, RW 9 W g cs ∧ n ≤ cs.size) := ⟨cs, hs, hcs⟩
  clear hs hcs hw hn
  go_enter Tryd.func18, Tryd.ntmps18
  go_wp2
  go_loopw [1, 5] (fun q i wr => ∃ j : Nat, j ≤ n ∧ i = .int .i64 j ∧ q = .int .i64 ((k0 + j : Nat) : Int) ∧ Hid (Mut (Blk1 (some ⟨g, 0, none⟩) n) W wr) ∧ Hid (∃ cs, RW 9 wr g cs ∧ n ≤ cs.size)) (fun _ i _ => n - (intOf i).toNat)
  case atStart => exact ⟨0, Nat.zero_le _, rfl, by simp, Mut.refl _ _, HM⟩
  case round =>
    obtain ⟨j, hj, rfl, rfl, HW, HJ⟩ := hrel
    by_cases hlt : j < n
    · obtain ⟨cs, hs, hcs⟩ := HJ.out
      have HSB := Lib.hid hs
      have HCS := Lib.hid hcs
      have hcs2 : j < cs.size := by omega
      clear hs hcs
      have b0 : (0 : Int) ≤ (j : Int) := by omega
      have b1 : (j : Int) < (n : Int) := by omega
      obtain ⟨t, ht⟩ : ∃ t, k0 + j = t := ⟨_, rfl⟩
      have HT := Lib.hid ht
      rw [ht]
      have ht0 : 0 < t := by omega
      have ht1 : t < 16777200 := by omega
      clear ht
      go_wp2_with (go_at_call 40; refine (markText_any t _ ht0 (by omega)).mono ?_; rintro e w0 ⟨rfl, hb⟩; have HB0 := Lib.hid hb; have HS0 : Hid (RW 9 w0 g cs) := HSB.out.below hb HSB.out.lt; have y0 := (HS0.out.cell j).trans (Array.getElem?_eq_getElem hcs2); have x0 := HS0.out.frozen j; clear hb)
      go_roundw
      case rel =>
        refine ⟨j + 1, by omega, by go_num, ?_, ?_, ?_⟩
        · have := HT.out
          congr 1
          omega
        · exact Lib.hid ((HW.out.trans (Mut.of_below HB0.out)).trans (Mut.of_set HS0.out HSG.out _ _))
        · exact Lib.hid ⟨_, HS0.out.set_ _ _, by simpa using HCS.out⟩
      case measure => simp [intOf]; omega
    · have HN : Hid (j = n) := by show _ = _; omega
      go_wp2_with fail
      go_ret
      exact ⟨i64_ret (by rw [HN.out]), HW.out⟩
end Go.Proofs.YtflhjcdabbomiaaDoor

namespace Go.Proofs.YtflhjcdabbomiaaDoor
open Go Go.RowKit

/-- A row that can be marked: where its lists lie is written in it. -/
def FnM (w : World) (g n : Nat) (sh : Nat → FnLay) : Prop := (∃ cs, RW 81 w g cs ∧ n * 4 ≤ cs.size ∧ ∀ j, j < n → cs[j * 4 + 1]? = some (.slice (sh j).A1 (sh j).n1 (sh j).c1) ∧ cs[j * 4 + 2]? = some (.slice (sh j).A2 (sh j).n2 (sh j).c2)) ∧ ∀ j, j < n → StW w (sh j).A1 (sh j).n1 ∧ StW w (sh j).A2 (sh j).n2
/-- How many marks it takes. -/
def cntFn (sh : Nat → FnLay) : Nat → Nat
  | 0 => 0
  | j + 1 => cntFn sh j + (2 + (sh j).n1 + (sh j).n2)
theorem cntFn_mono {sh : Nat → FnLay} {j : Nat} : ∀ {k : Nat}, j ≤ k → cntFn sh j ≤ cntFn sh k
  | 0, h => by obtain rfl : j = 0 := by omega
               exact Nat.le_refl _
  | k + 1, h => by
    by_cases e : j = k + 1
    · rw [e]; exact Nat.le_refl _
    · have := cntFn_mono (sh := sh) (show j ≤ k by omega)
      rw [cntFn]
      omega
theorem cntFn_ge (sh : Nat → FnLay) : ∀ n, n ≤ cntFn sh n
  | 0 => Nat.le_refl _
  | n + 1 => by have := cntFn_ge sh n; rw [cntFn]; omega
/-- Its blocks. -/
def SFn (g n : Nat) (sh : Nat → FnLay) (b : Nat) : Prop := b = g ∨ ∃ j, j < n ∧ (Blk1 (sh j).A1 (sh j).n1 b ∨ Blk1 (sh j).A2 (sh j).n2 b)
theorem str_ne_Fn : 9 ≠ 81 := by decide
/-- A row of strings turns. -/
theorem FnM.str {w w' : World} {g n m : Nat} {sh : Nat → FnLay} {A : Option Addr} (h : FnM w g n sh) (hs : StW w A m) (hm : Mut (Blk1 A m) w w') : FnM w' g n sh := by
  obtain ⟨⟨cs, hr, hc, hl⟩, ht⟩ := h
  refine ⟨⟨cs, hm.row hr fun hb => ?_, hc, hl⟩, fun j hj => ?_⟩
  · obtain ⟨b, cs', e, hr', _⟩ := hs hb.1
    rw [hb.2] at e
    simp only [Option.some.injEq, Addr.mk.injEq, and_true] at e
    subst e
    exact str_ne_Fn (RW.same hr' hr).1
  · have := ht j hj
    exact ⟨this.1.mut hm, this.2.mut hm⟩
theorem FnM.below {w w' : World} {g n : Nat} {sh : Nat → FnLay} (h : FnM w g n sh) (hb : Below w.heap.size w w') : FnM w' g n sh := by
  obtain ⟨⟨cs, hr, hc, hl⟩, ht⟩ := h
  refine ⟨⟨cs, hr.below hb hr.lt, hc, hl⟩, fun j hj => ?_⟩
  have := ht j hj
  have hm : Mut (fun _ => False) w w' := Mut.of_below hb
  exact ⟨this.1.mut hm, this.2.mut hm⟩
/-- A field that is no list is stored. -/
theorem FnM.set {w : World} {g n i q : Nat} {sh : Nat → FnLay} (h : FnM w g n sh) (hq : q < 4) (hl : q ≠ 1 ∧ q ≠ 2) (v : Value) : FnM (w.setCell ⟨g, i * 4 + q, none⟩ v) g n sh := by
  obtain ⟨⟨cs, hr, hc, hm⟩, ht⟩ := h
  refine ⟨⟨_, hr.set_ _ v, by simpa using hc, fun j hj => ?_⟩, fun j hj => ?_⟩
  · have k := hm j hj
    have e1 : i * 4 + q ≠ j * 4 + 1 := by omega
    have e2 : i * 4 + q ≠ j * 4 + 2 := by omega
    refine ⟨?_, ?_⟩
    · rw [Array.getElem?_setIfInBounds_ne e1]; exact k.1
    · rw [Array.getElem?_setIfInBounds_ne e2]; exact k.2
  · have := ht j hj
    have hm : Mut (fun b => b = g) w (w.setCell ⟨g, i * 4 + q, none⟩ v) := Mut.of_set (S := fun b => b = g) hr rfl _ _
    exact ⟨this.1.mut hm, this.2.mut hm⟩
theorem FnM.row {w : World} {g n : Nat} {sh : Nat → FnLay} (h : FnM w g n sh) {j q : Nat} (hj : j < n) (hq : q < 4) : (∃ u, w.cell? ⟨g, j * 4 + q, none⟩ = some u) ∧ w.frozen? ⟨g, j * 4 + q, none⟩ = false := by
  obtain ⟨⟨cs, hr, hc, _⟩, _⟩ := h
  have hi : j * 4 + q < cs.size := by
    have : (j + 1) * 4 ≤ n * 4 := Nat.mul_le_mul_right _ hj
    omega
  exact ⟨⟨_, (hr.cell _).trans (Array.getElem?_eq_getElem hi)⟩, hr.frozen _⟩
theorem FnM.at1 {w : World} {g n : Nat} {sh : Nat → FnLay} (h : FnM w g n sh) {j : Nat} (hj : j < n) : w.cell? ⟨g, j * 4 + 1, none⟩ = some (.slice (sh j).A1 (sh j).n1 (sh j).c1) := by
  obtain ⟨⟨cs, hr, hc, hm⟩, _⟩ := h
  exact (hr.cell _).trans ((hm j hj).1)
theorem FnM.at2 {w : World} {g n : Nat} {sh : Nat → FnLay} (h : FnM w g n sh) {j : Nat} (hj : j < n) : w.cell? ⟨g, j * 4 + 2, none⟩ = some (.slice (sh j).A2 (sh j).n2 (sh j).c2) := by
  obtain ⟨⟨cs, hr, hc, hm⟩, _⟩ := h
  exact (hr.cell _).trans ((hm j hj).2)
theorem FnM.of_set_mut {w : World} {g n j q : Nat} {sh : Nat → FnLay} (h : FnM w g n sh) (v : Value) : Mut (SFn g n sh) w (w.setCell ⟨g, j * 4 + q, none⟩ v) := by
  obtain ⟨⟨cs, hr, _, _⟩, _⟩ := h
  exact Mut.of_set hr (.inl rfl) _ _
/-- A row of one's own has that shape. -/
theorem FnIO.toM {w : World} {B g n : Nat} {xs : List Fn} (h : FnIO w B (some ⟨g, 0, none⟩) n xs) (hn : 0 < n) : ∃ sh, FnM w g n sh ∧ (∀ b, SFn g n sh b → g ≤ b ∧ b < B) ∧ ∀ (j : Nat) (x : Fn), xs[j]? = some x → (sh j).n1 = x.params_.length ∧ (sh j).n2 = x.locals_.length := by
  obtain ⟨g', cs, e, hg, hr, hc, hm⟩ := h.2.2 hn
  simp only [Option.some.injEq, Addr.mk.injEq, and_true] at e
  subst e
  have hex : ∀ j, ∃ l : FnLay, ∀ x, xs[j]? = some x → (∀ (q : Nat) (v : Value), (x.vs l)[q]? = some v → cs[j * 4 + q]? = some v) ∧ FnVO w B x l ∧ (∀ a, l.A1 = some a → g < a.block) ∧ (∀ a, l.A2 = some a → g < a.block) := fun j => by
    rcases hx : xs[j]? with _ | x
    · exact ⟨⟨none, 0, 0, Nat.le_refl _, none, 0, 0, Nat.le_refl _⟩, fun x hx' => by cases hx'⟩
    · obtain ⟨l, h1, h2⟩ := hm j x hx
      exact ⟨l, fun y hy => by cases hy; exact ⟨h1, h2⟩⟩
  refine ⟨fun j => Classical.choose (hex j), ⟨⟨cs, hr, hc, fun j hj => ?_⟩, fun j hj => ?_⟩, fun b hb => ?_, fun j x hx => ?_⟩
  · obtain ⟨h1, h2, h3⟩ := Classical.choose_spec (hex j) (xs[j]'(by rw [h.1]; exact hj)) (List.getElem?_eq_getElem _)
    exact ⟨h1 1 _ rfl, h1 2 _ rfl⟩
  · obtain ⟨h1, h2, h3⟩ := Classical.choose_spec (hex j) (xs[j]'(by rw [h.1]; exact hj)) (List.getElem?_eq_getElem _)
    exact ⟨h2.1.2, h2.2.1.2⟩
  · rcases hb with rfl | ⟨j, hj, hb⟩
    · exact ⟨Nat.le_refl _, hg⟩
    · obtain ⟨h1, h2, h3⟩ := Classical.choose_spec (hex j) (xs[j]'(by rw [h.1]; exact hj)) (List.getElem?_eq_getElem _)
      rcases hb with hb | hb
      · exact ⟨Nat.le_of_lt (h3.1 _ hb.2), h2.1.blk b hb⟩
      · exact ⟨Nat.le_of_lt (h3.2 _ hb.2), h2.2.1.blk b hb⟩
  · obtain ⟨h1, h2, h3⟩ := Classical.choose_spec (hex j) x hx
    exact ⟨h2.1.1.1.symm, h2.2.1.1.1.symm⟩

set_option maxHeartbeats 4000000 in
set_option maxRecDepth 100000 in
theorem markFunctionS_mut (g n c k0 : Nat) (sh : Nat → FnLay) (W : World) (hw : FnM W g n sh) (h0 : 0 < k0) (hk : k0 + cntFn sh n ≤ 16777000) :
    Calls Tryd.prog 38 #[.slice (some ⟨g, 0, none⟩) n c, .int .i64 k0] W fun e w' => e = .returned (.int .i64 ((k0 + cntFn sh n : Nat) : Int)) ∧ Mut (SFn g n sh) W w' ∧ FnM w' g n sh := by
  have HM := Lib.hid hw
  have hnn : n ≤ 16777000 := by have := cntFn_ge sh n; omega
  clear hw
  go_enter Tryd.func38, Tryd.ntmps38
  go_wp2
  go_loopw [1, 5] (fun q i wr => ∃ j : Nat, j ≤ n ∧ i = .int .i64 j ∧ q = .int .i64 ((k0 + cntFn sh j : Nat) : Int) ∧ Hid (Mut (SFn g n sh) W wr) ∧ Hid (FnM wr g n sh)) (fun _ i _ => n - (intOf i).toNat)
  case atStart => exact ⟨0, Nat.zero_le _, rfl, by simp [cntFn], Mut.refl _ _, HM⟩
  case round =>
    obtain ⟨j, hj, rfl, rfl, HW, HJ⟩ := hrel
    by_cases hlt : j < n
    · have HLT := Lib.hid hlt
      have hmono := cntFn_mono (sh := sh) (show j + 1 ≤ n by omega)
      have hnext : cntFn sh (j + 1) = cntFn sh j + (2 + (sh j).n1 + (sh j).n2) := rfl
      obtain ⟨l, hl⟩ : ∃ l, sh j = l := ⟨_, rfl⟩
      have HLJ := Lib.hid hl
      rw [hl] at hnext
      obtain ⟨A1, n1, c1, h1, A2, n2, c2, h2⟩ := l
      dsimp only at hnext
      have b0 : (0 : Int) ≤ (j : Int) := by omega
      have b1 : (j : Int) < (n : Int) := by omega
      obtain ⟨t, ht⟩ : ∃ t, k0 + cntFn sh j = t := ⟨_, rfl⟩
      have HT := Lib.hid ht
      have HNX : Hid (k0 + cntFn sh (j + 1) = t + (2 + n1 + n2)) := by show _ = _; omega
      rw [ht]
      have ht0 : 0 < t := by omega
      have ht1 : t + (2 + n1 + n2) ≤ 16777000 := by omega
      clear ht hl hmono hnext
      have tk1 : True := trivial
      have tk2 : True := trivial
      have tk3 : True := trivial
      have tk4 : True := trivial
      go_wp2_with (first
        | (go_at_call 40; have tk := tk1; have hh := markText_any (t) (wr) (by omega) (by omega); try rw [show ((t : Nat) : Int) = (t : Int) by push_cast; rfl] at hh; refine hh.mono ?_; clear hh; rintro e w1 ⟨rfl, hb⟩; have HM1 := Lib.hid ((HJ.out).below hb); have HU1 := Lib.hid ((HW.out).trans (Mut.of_below hb)); obtain ⟨⟨u0, y0⟩, x0⟩ := (HM1.out).row (q := 0) HLT.out (by decide); rw [Nat.add_zero] at y0 x0; have y1 := (HM1.out).at1 HLT.out; rw [HLJ.out] at y1; clear hb tk tk1)
        | (go_at_call 18; have tk := tk2; have hst := (show StW _ A1 n1 from by have q := (((HM1.out).set (i := j) (q := 0) (by decide) (by decide) (.string (markT (t))))).2 j HLT.out; rw [HLJ.out] at q; exact q.1); have hh := markStringS_mut A1 n1 c1 (t + 1) ((w1.setCell ⟨g, j * 4, none⟩ (.string (markT (t))))) hst (by omega) (by omega); try rw [show ((t + 1 : Nat) : Int) = (t : Int) + 1 by push_cast; rfl] at hh; refine hh.mono ?_; clear hh; rintro e w2 ⟨rfl, hm⟩; have HM2 := Lib.hid ((((HM1.out).set (i := j) (q := 0) (by decide) (by decide) (.string (markT (t))))).str hst hm); have HU2 := Lib.hid ((((HU1.out).trans ((HM1.out).of_set_mut (j := j) (q := 0) (.string (markT (t)))))).trans (Mut.mono hm fun b hb => .inr ⟨j, HLT.out, by rw [HLJ.out]; exact .inl hb⟩)); have y2 := (HM2.out).at2 HLT.out; rw [HLJ.out] at y2; clear hst hm tk tk2)
        | (go_at_call 18; have tk := tk3; have hst := (show StW _ A2 n2 from by have q := (HM2.out).2 j HLT.out; rw [HLJ.out] at q; exact q.2); have hh := markStringS_mut A2 n2 c2 (t + 1 + n1) (w2) hst (by omega) (by omega); try rw [show ((t + 1 + n1 : Nat) : Int) = ((t + 1 + n1 : Nat) : Int) by push_cast; rfl] at hh; refine hh.mono ?_; clear hh; rintro e w3 ⟨rfl, hm⟩; have HM3 := Lib.hid ((HM2.out).str hst hm); have HU3 := Lib.hid ((HU2.out).trans (Mut.mono hm fun b hb => .inr ⟨j, HLT.out, by rw [HLJ.out]; exact .inr hb⟩)); clear hst hm tk tk3)
        | (go_at_call 40; have tk := tk4; have hh := markText_any (t + 1 + n1 + n2) (w3) (by omega) (by omega); try rw [show ((t + 1 + n1 + n2 : Nat) : Int) = ((t + 1 + n1 + n2 : Nat) : Int) by push_cast; rfl] at hh; refine hh.mono ?_; clear hh; rintro e w4 ⟨rfl, hb⟩; have HM4 := Lib.hid ((HM3.out).below hb); have HU4 := Lib.hid ((HU3.out).trans (Mut.of_below hb)); obtain ⟨⟨u3, y3⟩, x3⟩ := (HM4.out).row (q := 3) HLT.out (by decide); clear hb tk tk4))
      go_roundw
      case rel =>
        refine ⟨j + 1, by omega, by go_num, ?_, Lib.hid ((HU4.out).trans ((HM4.out).of_set_mut (j := j) (q := 3) (.string (markT (t + 1 + n1 + n2))))), Lib.hid ((HM4.out).set (i := j) (q := 3) (by decide) (by decide) (.string (markT (t + 1 + n1 + n2))))⟩
        rw [HNX.out]
        congr 1
        push_cast
        omega
      case measure => simp [intOf]; have := HLT.out; omega
    · have HN : Hid (j = n) := by show _ = _; omega
      go_wp2_with fail
      go_ret
      have hM := HJ.out
      exact ⟨i64_ret (by rw [HN.out]), HW.out, hM⟩
end Go.Proofs.YtflhjcdabbomiaaDoor

namespace Go.Proofs.YtflhjcdabbomiaaDoor
open Go Go.RowKit

/-- A row that can be marked: where its lists lie is written in it. -/
def RtM (w : World) (g n : Nat) (sh : Nat → RtLay) : Prop := (∃ cs, RW 83 w g cs ∧ n * 2 ≤ cs.size ∧ ∀ j, j < n → cs[j * 2 + 1]? = some (.slice (sh j).A1 (sh j).n1 (sh j).c1)) ∧ ∀ j, j < n → StW w (sh j).A1 (sh j).n1
/-- How many marks it takes. -/
def cntRt (sh : Nat → RtLay) : Nat → Nat
  | 0 => 0
  | j + 1 => cntRt sh j + (1 + (sh j).n1)
theorem cntRt_mono {sh : Nat → RtLay} {j : Nat} : ∀ {k : Nat}, j ≤ k → cntRt sh j ≤ cntRt sh k
  | 0, h => by obtain rfl : j = 0 := by omega
               exact Nat.le_refl _
  | k + 1, h => by
    by_cases e : j = k + 1
    · rw [e]; exact Nat.le_refl _
    · have := cntRt_mono (sh := sh) (show j ≤ k by omega)
      rw [cntRt]
      omega
theorem cntRt_ge (sh : Nat → RtLay) : ∀ n, n ≤ cntRt sh n
  | 0 => Nat.le_refl _
  | n + 1 => by have := cntRt_ge sh n; rw [cntRt]; omega
/-- Its blocks. -/
def SRt (g n : Nat) (sh : Nat → RtLay) (b : Nat) : Prop := b = g ∨ ∃ j, j < n ∧ (Blk1 (sh j).A1 (sh j).n1 b)
theorem str_ne_Rt : 9 ≠ 83 := by decide
/-- A row of strings turns. -/
theorem RtM.str {w w' : World} {g n m : Nat} {sh : Nat → RtLay} {A : Option Addr} (h : RtM w g n sh) (hs : StW w A m) (hm : Mut (Blk1 A m) w w') : RtM w' g n sh := by
  obtain ⟨⟨cs, hr, hc, hl⟩, ht⟩ := h
  refine ⟨⟨cs, hm.row hr fun hb => ?_, hc, hl⟩, fun j hj => ?_⟩
  · obtain ⟨b, cs', e, hr', _⟩ := hs hb.1
    rw [hb.2] at e
    simp only [Option.some.injEq, Addr.mk.injEq, and_true] at e
    subst e
    exact str_ne_Rt (RW.same hr' hr).1
  · have := ht j hj
    exact this.mut hm
theorem RtM.below {w w' : World} {g n : Nat} {sh : Nat → RtLay} (h : RtM w g n sh) (hb : Below w.heap.size w w') : RtM w' g n sh := by
  obtain ⟨⟨cs, hr, hc, hl⟩, ht⟩ := h
  refine ⟨⟨cs, hr.below hb hr.lt, hc, hl⟩, fun j hj => ?_⟩
  have := ht j hj
  have hm : Mut (fun _ => False) w w' := Mut.of_below hb
  exact this.mut hm
/-- A field that is no list is stored. -/
theorem RtM.set {w : World} {g n i q : Nat} {sh : Nat → RtLay} (h : RtM w g n sh) (hq : q < 2) (hl : q ≠ 1) (v : Value) : RtM (w.setCell ⟨g, i * 2 + q, none⟩ v) g n sh := by
  obtain ⟨⟨cs, hr, hc, hm⟩, ht⟩ := h
  refine ⟨⟨_, hr.set_ _ v, by simpa using hc, fun j hj => ?_⟩, fun j hj => ?_⟩
  · have k := hm j hj
    have e1 : i * 2 + q ≠ j * 2 + 1 := by omega
    skip
    · rw [Array.getElem?_setIfInBounds_ne e1]; exact k
  · have := ht j hj
    have hm : Mut (fun b => b = g) w (w.setCell ⟨g, i * 2 + q, none⟩ v) := Mut.of_set (S := fun b => b = g) hr rfl _ _
    exact this.mut hm
theorem RtM.row {w : World} {g n : Nat} {sh : Nat → RtLay} (h : RtM w g n sh) {j q : Nat} (hj : j < n) (hq : q < 2) : (∃ u, w.cell? ⟨g, j * 2 + q, none⟩ = some u) ∧ w.frozen? ⟨g, j * 2 + q, none⟩ = false := by
  obtain ⟨⟨cs, hr, hc, _⟩, _⟩ := h
  have hi : j * 2 + q < cs.size := by
    have : (j + 1) * 2 ≤ n * 2 := Nat.mul_le_mul_right _ hj
    omega
  exact ⟨⟨_, (hr.cell _).trans (Array.getElem?_eq_getElem hi)⟩, hr.frozen _⟩
theorem RtM.at1 {w : World} {g n : Nat} {sh : Nat → RtLay} (h : RtM w g n sh) {j : Nat} (hj : j < n) : w.cell? ⟨g, j * 2 + 1, none⟩ = some (.slice (sh j).A1 (sh j).n1 (sh j).c1) := by
  obtain ⟨⟨cs, hr, hc, hm⟩, _⟩ := h
  exact (hr.cell _).trans ((hm j hj))
theorem RtM.of_set_mut {w : World} {g n j q : Nat} {sh : Nat → RtLay} (h : RtM w g n sh) (v : Value) : Mut (SRt g n sh) w (w.setCell ⟨g, j * 2 + q, none⟩ v) := by
  obtain ⟨⟨cs, hr, _, _⟩, _⟩ := h
  exact Mut.of_set hr (.inl rfl) _ _
/-- A row of one's own has that shape. -/
theorem RtIO.toM {w : World} {B g n : Nat} {xs : List Rt} (h : RtIO w B (some ⟨g, 0, none⟩) n xs) (hn : 0 < n) : ∃ sh, RtM w g n sh ∧ (∀ b, SRt g n sh b → g ≤ b ∧ b < B) ∧ ∀ (j : Nat) (x : Rt), xs[j]? = some x → (sh j).n1 = x.fields_.length := by
  obtain ⟨g', cs, e, hg, hr, hc, hm⟩ := h.2.2 hn
  simp only [Option.some.injEq, Addr.mk.injEq, and_true] at e
  subst e
  have hex : ∀ j, ∃ l : RtLay, ∀ x, xs[j]? = some x → (∀ (q : Nat) (v : Value), (x.vs l)[q]? = some v → cs[j * 2 + q]? = some v) ∧ RtVO w B x l ∧ (∀ a, l.A1 = some a → g < a.block) := fun j => by
    rcases hx : xs[j]? with _ | x
    · exact ⟨⟨none, 0, 0, Nat.le_refl _⟩, fun x hx' => by cases hx'⟩
    · obtain ⟨l, h1, h2⟩ := hm j x hx
      exact ⟨l, fun y hy => by cases hy; exact ⟨h1, h2⟩⟩
  refine ⟨fun j => Classical.choose (hex j), ⟨⟨cs, hr, hc, fun j hj => ?_⟩, fun j hj => ?_⟩, fun b hb => ?_, fun j x hx => ?_⟩
  · obtain ⟨h1, h2, h3⟩ := Classical.choose_spec (hex j) (xs[j]'(by rw [h.1]; exact hj)) (List.getElem?_eq_getElem _)
    exact h1 1 _ rfl
  · obtain ⟨h1, h2, h3⟩ := Classical.choose_spec (hex j) (xs[j]'(by rw [h.1]; exact hj)) (List.getElem?_eq_getElem _)
    exact h2.1.2
  · rcases hb with rfl | ⟨j, hj, hb⟩
    · exact ⟨Nat.le_refl _, hg⟩
    · obtain ⟨h1, h2, h3⟩ := Classical.choose_spec (hex j) (xs[j]'(by rw [h.1]; exact hj)) (List.getElem?_eq_getElem _)
      skip
      · exact ⟨Nat.le_of_lt (h3 _ hb.2), h2.1.blk b hb⟩
  · obtain ⟨h1, h2, h3⟩ := Classical.choose_spec (hex j) x hx
    exact h2.1.1.1.symm

set_option maxHeartbeats 4000000 in
set_option maxRecDepth 100000 in
theorem markRecordTypeS_mut (g n c k0 : Nat) (sh : Nat → RtLay) (W : World) (hw : RtM W g n sh) (h0 : 0 < k0) (hk : k0 + cntRt sh n ≤ 16777000) :
    Calls Tryd.prog 39 #[.slice (some ⟨g, 0, none⟩) n c, .int .i64 k0] W fun e w' => e = .returned (.int .i64 ((k0 + cntRt sh n : Nat) : Int)) ∧ Mut (SRt g n sh) W w' ∧ RtM w' g n sh := by
  have HM := Lib.hid hw
  have hnn : n ≤ 16777000 := by have := cntRt_ge sh n; omega
  clear hw
  go_enter Tryd.func39, Tryd.ntmps39
  go_wp2
  go_loopw [1, 5] (fun q i wr => ∃ j : Nat, j ≤ n ∧ i = .int .i64 j ∧ q = .int .i64 ((k0 + cntRt sh j : Nat) : Int) ∧ Hid (Mut (SRt g n sh) W wr) ∧ Hid (RtM wr g n sh)) (fun _ i _ => n - (intOf i).toNat)
  case atStart => exact ⟨0, Nat.zero_le _, rfl, by simp [cntRt], Mut.refl _ _, HM⟩
  case round =>
    obtain ⟨j, hj, rfl, rfl, HW, HJ⟩ := hrel
    by_cases hlt : j < n
    · have HLT := Lib.hid hlt
      have hmono := cntRt_mono (sh := sh) (show j + 1 ≤ n by omega)
      have hnext : cntRt sh (j + 1) = cntRt sh j + (1 + (sh j).n1) := rfl
      obtain ⟨l, hl⟩ : ∃ l, sh j = l := ⟨_, rfl⟩
      have HLJ := Lib.hid hl
      rw [hl] at hnext
      obtain ⟨A1, n1, c1, h1⟩ := l
      dsimp only at hnext
      have b0 : (0 : Int) ≤ (j : Int) := by omega
      have b1 : (j : Int) < (n : Int) := by omega
      obtain ⟨t, ht⟩ : ∃ t, k0 + cntRt sh j = t := ⟨_, rfl⟩
      have HT := Lib.hid ht
      have HNX : Hid (k0 + cntRt sh (j + 1) = t + (1 + n1)) := by show _ = _; omega
      rw [ht]
      have ht0 : 0 < t := by omega
      have ht1 : t + (1 + n1) ≤ 16777000 := by omega
      clear ht hl hmono hnext
      have tk1 : True := trivial
      have tk2 : True := trivial
      go_wp2_with (first
        | (go_at_call 40; have tk := tk1; have hh := markText_any (t) (wr) (by omega) (by omega); try rw [show ((t : Nat) : Int) = (t : Int) by push_cast; rfl] at hh; refine hh.mono ?_; clear hh; rintro e w1 ⟨rfl, hb⟩; have HM1 := Lib.hid ((HJ.out).below hb); have HU1 := Lib.hid ((HW.out).trans (Mut.of_below hb)); obtain ⟨⟨u0, y0⟩, x0⟩ := (HM1.out).row (q := 0) HLT.out (by decide); rw [Nat.add_zero] at y0 x0; have y1 := (HM1.out).at1 HLT.out; rw [HLJ.out] at y1; clear hb tk tk1)
        | (go_at_call 18; have tk := tk2; have hst := (show StW _ A1 n1 from by have q := (((HM1.out).set (i := j) (q := 0) (by decide) (by decide) (.string (markT (t))))).2 j HLT.out; rw [HLJ.out] at q; exact q); have hh := markStringS_mut A1 n1 c1 (t + 1) ((w1.setCell ⟨g, j * 2, none⟩ (.string (markT (t))))) hst (by omega) (by omega); try rw [show ((t + 1 : Nat) : Int) = (t : Int) + 1 by push_cast; rfl] at hh; refine hh.mono ?_; clear hh; rintro e w2 ⟨rfl, hm⟩; have HM2 := Lib.hid ((((HM1.out).set (i := j) (q := 0) (by decide) (by decide) (.string (markT (t))))).str hst hm); have HU2 := Lib.hid ((((HU1.out).trans ((HM1.out).of_set_mut (j := j) (q := 0) (.string (markT (t)))))).trans (Mut.mono hm fun b hb => .inr ⟨j, HLT.out, by rw [HLJ.out]; exact hb⟩)); clear hst hm tk tk2))
      go_roundw
      case rel =>
        refine ⟨j + 1, by omega, by go_num, ?_, Lib.hid HU2.out, Lib.hid HM2.out⟩
        rw [HNX.out]
        congr 1
        push_cast
        omega
      case measure => simp [intOf]; have := HLT.out; omega
    · have HN : Hid (j = n) := by show _ = _; omega
      go_wp2_with fail
      go_ret
      have hM := HJ.out
      exact ⟨i64_ret (by rw [HN.out]), HW.out, hM⟩
end Go.Proofs.YtflhjcdabbomiaaDoor

namespace Go.Proofs.YtflhjcdabbomiaaDoor
open Go Go.RowKit

/-- A row of bindings that can be marked. -/
def BdP (w : World) (A : Option Addr) (n : Nat) : Prop := 0 < n → ∃ g cs, A = some ⟨g, 0, none⟩ ∧ RW 63 w g cs ∧ n * 5 ≤ cs.size
theorem bd_ne_str : 9 ≠ 63 := by decide
theorem bd_ne_fn : 81 ≠ 63 := by decide
theorem bd_ne_rt : 83 ≠ 63 := by decide
theorem rt_ne_fn : 83 ≠ 81 := by decide
theorem rt_ne_str : 83 ≠ 9 := by decide
/-- Bindings, none or many. -/
theorem markBs (A : Option Addr) (n c k0 : Nat) (W : World) (h : BdP W A n) (h0 : 0 < k0) (hk : k0 + n * 5 ≤ 16777000) :
    Calls Tryd.prog 19 #[.slice A n c, .int .i64 k0] W fun e w' => e = .returned (.int .i64 ((k0 + n * 5 : Nat) : Int)) ∧ Mut (Blk1 A n) W w' := by
  rcases Nat.eq_zero_or_pos n with hn | hn
  · subst hn
    go_enter Tryd.func19, Tryd.ntmps19
    go_wp2
    go_loopw [1, 5] (fun q i wr => i = .int .i64 0 ∧ q = .int .i64 (k0 : Int) ∧ wr = W) (fun _ _ _ => 0)
    case atStart => exact ⟨rfl, rfl, rfl⟩
    case round =>
      obtain ⟨rfl, rfl, rfl⟩ := hrel
      go_wp2_with fail
      go_ret
      exact ⟨by simp, Mut.refl _ _⟩
  · obtain ⟨g, cs, rfl, hr, hc⟩ := h hn
    refine (markBindingS_any g n c k0 cs W hr hc h0 hk).mono ?_
    rintro e w' ⟨he, hgb, _⟩
    exact ⟨he, (Mut.of_gb hgb hr bd_ne_str).mono fun j hj => by rw [hj]; exact ⟨hn, rfl⟩⟩
/-- What does not turn where a row of bindings is marked. -/
theorem BdP.row {w w' : World} {A : Option Addr} {n : Nat} {T : TypeId} {b : Nat} {cs : Array Value} (h : BdP w A n) (hm : Mut (Blk1 A n) w w') (hT : T ≠ 63) (hr : RW T w b cs) : RW T w' b cs := hm.row hr fun hb => by
  obtain ⟨g, cs', e, hr', _⟩ := h hb.1
  rw [hb.2] at e
  simp only [Option.some.injEq, Addr.mk.injEq, and_true] at e
  subst e
  exact hT (RW.same hr hr').1

/-- Functions, none or many, that can be marked. -/
def FnP (w : World) (A : Option Addr) (n : Nat) (sh : Nat → FnLay) : Prop := 0 < n → ∃ g, A = some ⟨g, 0, none⟩ ∧ FnM w g n sh
/-- Their blocks. -/
def SFnA (A : Option Addr) (n : Nat) (sh : Nat → FnLay) (b : Nat) : Prop := 0 < n ∧ ∃ g, A = some ⟨g, 0, none⟩ ∧ SFn g n sh b
theorem markFns (A : Option Addr) (n c k0 : Nat) (sh : Nat → FnLay) (W : World) (h : FnP W A n sh) (h0 : 0 < k0) (hk : k0 + cntFn sh n ≤ 16777000) :
    Calls Tryd.prog 38 #[.slice A n c, .int .i64 k0] W fun e w' => e = .returned (.int .i64 ((k0 + cntFn sh n : Nat) : Int)) ∧ Mut (SFnA A n sh) W w' := by
  rcases Nat.eq_zero_or_pos n with hn | hn
  · subst hn
    go_enter Tryd.func38, Tryd.ntmps38
    go_wp2
    go_loopw [1, 5] (fun q i wr => i = .int .i64 0 ∧ q = .int .i64 (k0 : Int) ∧ wr = W) (fun _ _ _ => 0)
    case atStart => exact ⟨rfl, rfl, rfl⟩
    case round =>
      obtain ⟨rfl, rfl, rfl⟩ := hrel
      go_wp2_with fail
      go_ret
      exact ⟨by simp [cntFn], Mut.refl _ _⟩
  · obtain ⟨g, rfl, hM⟩ := h hn
    refine (markFunctionS_mut g n c k0 sh W hM h0 hk).mono ?_
    rintro e w' ⟨he, hm, _⟩
    exact ⟨he, hm.mono fun j hj => ⟨hn, g, rfl, hj⟩⟩
theorem FnP.keep {w w' : World} {A : Option Addr} {n : Nat} {sh : Nat → FnLay} {S : Nat → Prop} (h : FnP w A n sh) (hm : Mut S w w') (hk : ∀ b cs, RW 81 w b cs → RW 81 w' b cs) : FnP w' A n sh := fun hn => by
  obtain ⟨g, e, ⟨cs, hr, hc, hl⟩, ht⟩ := h hn
  exact ⟨g, e, ⟨cs, hk g cs hr, hc, hl⟩, fun j hj => by have := ht j hj; exact ⟨this.1.mut hm, this.2.mut hm⟩⟩
theorem cntFn_le {sh : Nat → FnLay} {xs : List Fn} (h : ∀ (j : Nat) (x : Fn), xs[j]? = some x → (sh j).n1 = x.params_.length ∧ (sh j).n2 = x.locals_.length) : ∀ {j : Nat}, j ≤ xs.length → cntFn sh j ≤ 2 * j + sumFn xs j
  | 0, _ => Nat.zero_le _
  | j + 1, hj => by
    have := cntFn_le h (show j ≤ xs.length by omega)
    have hx := List.getElem?_eq_getElem (show j < xs.length by omega)
    have hl := h j _ hx
    rw [cntFn, sumFn_next hx]
    unfold szFn1
    try unfold szSt
    omega
theorem FnIO.toP {w : World} {B n : Nat} {A : Option Addr} {xs : List Fn} (h : FnIO w B A n xs) : ∃ sh, FnP w A n sh ∧ cntFn sh n ≤ 2 * szFn xs ∧ ∀ a, (∀ x, A = some x → a ≤ x.block) → ∀ b, SFnA A n sh b → a ≤ b ∧ b < B := by
  rcases Nat.eq_zero_or_pos n with hn | hn
  · subst hn
    exact ⟨fun _ => ⟨none, 0, 0, Nat.le_refl _, none, 0, 0, Nat.le_refl _⟩, fun hn => absurd hn (by omega), Nat.zero_le _, fun a ha b hb => absurd hb.1 (by omega)⟩
  · obtain ⟨g, _, rfl, _⟩ := h.2.2 hn
    obtain ⟨sh, hM, hS, hsh⟩ := h.toM hn
    refine ⟨sh, fun _ => ⟨g, rfl, hM⟩, ?_, fun a ha b hb => ?_⟩
    · have := cntFn_le hsh (Nat.le_refl _)
      have hl := h.1
      unfold szFn
      rw [hl] at this ⊢
      omega
    · obtain ⟨_, g', e, hb⟩ := hb
      simp only [Option.some.injEq, Addr.mk.injEq, and_true] at e
      subst e
      have := hS b hb
      have := ha _ rfl
      dsimp only at this
      omega

/-- RecordTypes, none or many, that can be marked. -/
def RtP (w : World) (A : Option Addr) (n : Nat) (sh : Nat → RtLay) : Prop := 0 < n → ∃ g, A = some ⟨g, 0, none⟩ ∧ RtM w g n sh
/-- Their blocks. -/
def SRtA (A : Option Addr) (n : Nat) (sh : Nat → RtLay) (b : Nat) : Prop := 0 < n ∧ ∃ g, A = some ⟨g, 0, none⟩ ∧ SRt g n sh b
theorem markRts (A : Option Addr) (n c k0 : Nat) (sh : Nat → RtLay) (W : World) (h : RtP W A n sh) (h0 : 0 < k0) (hk : k0 + cntRt sh n ≤ 16777000) :
    Calls Tryd.prog 39 #[.slice A n c, .int .i64 k0] W fun e w' => e = .returned (.int .i64 ((k0 + cntRt sh n : Nat) : Int)) ∧ Mut (SRtA A n sh) W w' := by
  rcases Nat.eq_zero_or_pos n with hn | hn
  · subst hn
    go_enter Tryd.func39, Tryd.ntmps39
    go_wp2
    go_loopw [1, 5] (fun q i wr => i = .int .i64 0 ∧ q = .int .i64 (k0 : Int) ∧ wr = W) (fun _ _ _ => 0)
    case atStart => exact ⟨rfl, rfl, rfl⟩
    case round =>
      obtain ⟨rfl, rfl, rfl⟩ := hrel
      go_wp2_with fail
      go_ret
      exact ⟨by simp [cntRt], Mut.refl _ _⟩
  · obtain ⟨g, rfl, hM⟩ := h hn
    refine (markRecordTypeS_mut g n c k0 sh W hM h0 hk).mono ?_
    rintro e w' ⟨he, hm, _⟩
    exact ⟨he, hm.mono fun j hj => ⟨hn, g, rfl, hj⟩⟩
theorem RtP.keep {w w' : World} {A : Option Addr} {n : Nat} {sh : Nat → RtLay} {S : Nat → Prop} (h : RtP w A n sh) (hm : Mut S w w') (hk : ∀ b cs, RW 83 w b cs → RW 83 w' b cs) : RtP w' A n sh := fun hn => by
  obtain ⟨g, e, ⟨cs, hr, hc, hl⟩, ht⟩ := h hn
  exact ⟨g, e, ⟨cs, hk g cs hr, hc, hl⟩, fun j hj => by have := ht j hj; exact this.mut hm⟩
theorem cntRt_le {sh : Nat → RtLay} {xs : List Rt} (h : ∀ (j : Nat) (x : Rt), xs[j]? = some x → (sh j).n1 = x.fields_.length) : ∀ {j : Nat}, j ≤ xs.length → cntRt sh j ≤ 1 * j + sumRt xs j
  | 0, _ => Nat.zero_le _
  | j + 1, hj => by
    have := cntRt_le h (show j ≤ xs.length by omega)
    have hx := List.getElem?_eq_getElem (show j < xs.length by omega)
    have hl := h j _ hx
    rw [cntRt, sumRt_next hx]
    unfold szRt1
    try unfold szSt
    omega
theorem RtIO.toP {w : World} {B n : Nat} {A : Option Addr} {xs : List Rt} (h : RtIO w B A n xs) : ∃ sh, RtP w A n sh ∧ cntRt sh n ≤ 1 * szRt xs ∧ ∀ a, (∀ x, A = some x → a ≤ x.block) → ∀ b, SRtA A n sh b → a ≤ b ∧ b < B := by
  rcases Nat.eq_zero_or_pos n with hn | hn
  · subst hn
    exact ⟨fun _ => ⟨none, 0, 0, Nat.le_refl _⟩, fun hn => absurd hn (by omega), Nat.zero_le _, fun a ha b hb => absurd hb.1 (by omega)⟩
  · obtain ⟨g, _, rfl, _⟩ := h.2.2 hn
    obtain ⟨sh, hM, hS, hsh⟩ := h.toM hn
    refine ⟨sh, fun _ => ⟨g, rfl, hM⟩, ?_, fun a ha b hb => ?_⟩
    · have := cntRt_le hsh (Nat.le_refl _)
      have hl := h.1
      unfold szRt
      rw [hl] at this ⊢
      omega
    · obtain ⟨_, g', e, hb⟩ := hb
      simp only [Option.some.injEq, Addr.mk.injEq, and_true] at e
      subst e
      have := hS b hb
      have := ha _ rfl
      dsimp only at this
      omega

/-- What does not turn where functions are marked. -/
theorem FnP.row {w w' : World} {A : Option Addr} {n : Nat} {sh : Nat → FnLay} {b : Nat} {cs : Array Value} (h : FnP w A n sh) (hm : Mut (SFnA A n sh) w w') (hr : RW 83 w b cs) : RW 83 w' b cs := hm.row hr fun hb => by
  obtain ⟨hn, g, e, hb⟩ := hb
  obtain ⟨g', e', ⟨cs', hr', _⟩, ht⟩ := h hn
  rw [e] at e'
  simp only [Option.some.injEq, Addr.mk.injEq, and_true] at e'
  subst e'
  rcases hb with rfl | ⟨j, hj, hb⟩
  · exact rt_ne_fn (RW.same hr hr').1
  · have key : ∀ (A : Option Addr) (m : Nat), StW w A m → Blk1 A m b → False := fun A m hw hk => by
      obtain ⟨b', cs2, e2, hr2, _⟩ := hw hk.1
      rw [hk.2] at e2
      simp only [Option.some.injEq, Addr.mk.injEq, and_true] at e2
      subst e2
      exact rt_ne_str (RW.same hr hr2).1
    rcases hb with hb | hb
    · exact key _ _ (ht j hj).1 hb
    · exact key _ _ (ht j hj).2 hb

set_option maxHeartbeats 2000000 in
set_option maxRecDepth 100000 in
theorem markScope_mut (x : Sc) (l : ScLay) (a B k0 : Nat) (W : World) (h : ScVO W B x l) (hB : B ≤ W.heap.size) (h0 : 0 < k0) (hk0 : k0 ≤ 1000) (hz : szSc1 x ≤ 1048576)
    (ha0 : ∀ y, l.A0 = some y → a ≤ y.block) (ha1 : ∀ y, l.A1 = some y → a ≤ y.block) (ha2 : ∀ y, l.A2 = some y → a ≤ y.block) :
    Calls Tryd.prog 17 #[x.ag l, .int .i64 k0] W fun e w' => ∃ k : Nat, e = .returned (.int .i64 (k : Int)) ∧ k0 ≤ k ∧ k ≤ 6000000 ∧ Mut (fun j => a ≤ j ∧ j < B) W w' := by
  obtain ⟨x0, x1, x2⟩ := x
  obtain ⟨A0, n0, c0, h0', A1, n1, c1, h1', A2, n2, c2, h2'⟩ := l
  obtain ⟨k1, k2, k3⟩ := h
  dsimp only at k1 k2 k3 ha0 ha1 ha2
  unfold szSc1 szBd at hz
  dsimp only at hz
  have hl0 := k1.1.1
  obtain ⟨sF, hF, hcF, hSF⟩ := k2.toP
  obtain ⟨sR, hR, hcR, hSR⟩ := k3.toP
  have hBP : BdP W A0 n0 := fun hn => by obtain ⟨g, cs, e, _, hr, hc⟩ := k1.2 hn; exact ⟨g, cs, e, hr, hc⟩
  have hSB : ∀ b, Blk1 A0 n0 b → a ≤ b ∧ b < B := fun b hb => by
    obtain ⟨g, cs, e, hg, _⟩ := k1.2 hb.1
    rw [hb.2] at e
    simp only [Option.some.injEq, Addr.mk.injEq, and_true] at e
    subst e
    exact ⟨ha0 _ hb.2, hg⟩
  have HSB := Lib.hid hSB
  have HSF := Lib.hid (hSF a ha1)
  have HSR := Lib.hid (hSR a ha2)
  have hcnt : n0 * 5 ≤ 5242880 ∧ cntFn sF n1 ≤ 2097152 ∧ cntRt sR n2 ≤ 2097152 ∧ n0 * 5 + cntFn sF n1 + cntRt sR n2 ≤ 5242880 := by omega
  have HCN := Lib.hid hcnt
  have HK0 := Lib.hid hk0
  have HK1 := Lib.hid h0
  have HC := Lib.hid (fun X (e : X = W.alloc (.cells #[.slice A0 n0 c0, .slice A1 n1 c1, .slice A2 n2 c2] 36)) => (show RW 36 X W.heap.size #[.slice A0 n0 c0, .slice A1 n1 c1, .slice A2 n2 c2] ∧ Below W.heap.size W X ∧ W.heap.size < X.heap.size ∧ BdP X A0 n0 ∧ FnP X A1 n1 sF ∧ RtP X A2 n2 sR from by
    have hb : Below W.heap.size W X := by rw [e]; exact below_alloc _ _
    refine ⟨by rw [e]; exact RW.new _ _ _, hb, by rw [e]; exact lt_alloc _ _, fun hn => ?_, ?_, ?_⟩
    · obtain ⟨g, cs, e, hr, hc⟩ := hBP hn
      exact ⟨g, cs, e, hr.below hb hr.lt, hc⟩
    · exact hF.keep (Mut.of_below (S := fun _ => False) hb) fun b cs hr => hr.below hb hr.lt
    · exact hR.keep (Mut.of_below (S := fun _ => False) hb) fun b cs hr => hr.below hb hr.lt))
  clear k1 k2 k3 hF hR hBP hSB hSF hSR hcF hcR hz hl0 hcnt ha0 ha1 ha2
  have tk1 : True := trivial
  have tk2 : True := trivial
  have tk3 : True := trivial
  show Calls Tryd.prog 17 #[.agg #[.slice A0 n0 c0, .slice A1 n1 c1, .slice A2 n2 c2], .int .i64 k0] W _
  go_enter Tryd.func17, Tryd.ntmps17
  go_wp2_with (first
    | (go_at_call 19; have tk := tk1; obtain ⟨g0, g1, g2, gB, gF, gR⟩ := HC.out _ rfl; have hh := markBs A0 n0 c0 k0 _ gB h0 (by have := HCN.out; omega); refine hh.mono ?_; clear hh; rintro e w1 ⟨rfl, hm⟩; have HU1 : Hid (Mut (fun j => a ≤ j ∧ j < B) W w1) := (Mut.of_below g1).trans (hm.mono fun j hj => HSB.out j hj); have HF1 := Lib.hid (gF.keep hm fun b cs hr => gB.row hm bd_ne_fn hr); have HR1 := Lib.hid (gR.keep hm fun b cs hr => gB.row hm bd_ne_rt hr); have HX1 : Hid (RW 36 w1 W.heap.size #[.slice A0 n0 c0, .slice A1 n1 c1, .slice A2 n2 c2]) := gB.row hm (by decide) g0; have q1 : w1.cell? ⟨W.heap.size, 1, none⟩ = some (.slice A1 n1 c1) := HX1.out.cell 1; clear g0 g1 g2 gB gF gR hm tk tk1)
    | (go_at_call 38; have tk := tk2; have hh := markFns A1 n1 c1 (k0 + n0 * 5) sF w1 HF1.out (by omega) (by have := HCN.out; omega); refine hh.mono ?_; clear hh; rintro e w2 ⟨rfl, hm⟩; have HU2 := Lib.hid (HU1.out.trans (hm.mono fun j hj => HSF.out j hj)); have HR2 := Lib.hid (HR1.out.keep hm fun b cs hr => HF1.out.row hm hr); have HX2 : Hid (RW 36 w2 W.heap.size #[.slice A0 n0 c0, .slice A1 n1 c1, .slice A2 n2 c2]) := hm.row HX1.out (fun hb => by have := HSF.out _ hb; omega); have q2 : w2.cell? ⟨W.heap.size, 2, none⟩ = some (.slice A2 n2 c2) := HX2.out.cell 2; clear hm tk tk2)
    | (go_at_call 39; have tk := tk3; have hh := markRts A2 n2 c2 (k0 + n0 * 5 + cntFn sF n1) sR w2 HR2.out (by omega) (by have := HCN.out; omega); refine hh.mono ?_; clear hh; rintro e w3 ⟨rfl, hm⟩; have HU3 := Lib.hid (HU2.out.trans (hm.mono fun j hj => HSR.out j hj)); clear hm tk tk3))
  go_ret
  exact ⟨k0 + n0 * 5 + cntFn sF n1 + cntRt sR n2, rfl, by omega, by have := HCN.out; have := HK0.out; omega, HU3.out⟩
end Go.Proofs.YtflhjcdabbomiaaDoor

namespace Go.Proofs.YtflhjcdabbomiaaDoor
open Go Go.RowKit

/-- What toScope answers. -/
def ToSc (x : Sc) (W : World) (e : Ending) (w' : World) : Prop := ∃ l, e = .returned (x.ag l) ∧ Hid (ScV w' w'.heap.size x l ∧ Below W.heap.size W w' ∧ l.n0 = x.vars_.length ∧ l.n1 = x.functions_.length ∧ l.n2 = x.types_.length ∧ ∃ b0 b1 b2, l.A0 = some ⟨b0, 0, none⟩ ∧ l.A1 = some ⟨b1, 0, none⟩ ∧ l.A2 = some ⟨b2, 0, none⟩ ∧ W.heap.size ≤ b0 ∧ W.heap.size ≤ b1 ∧ W.heap.size ≤ b2)

set_option maxHeartbeats 2000000 in
set_option maxRecDepth 100000 in
theorem toScope_any (x : Sc) (l : ScLay) (W : World) (ho : ScV W W.heap.size x l) (hsm : ScSmall x) :
    Calls Tryd.prog 7 #[x.ag l] W (ToSc x W) := by
  obtain ⟨x0, x1, x2⟩ := x
  obtain ⟨A0, n0, c0, h0, A1, n1, c1, h1, A2, n2, c2, h2⟩ := l
  obtain ⟨k0, k1, k2⟩ := ho
  obtain ⟨s0, s1, s2⟩ := hsm
  try unfold ScV at k0 k1 k2
  try unfold ScSmall at s0 s1 s2
  dsimp only at k0 k1 k2 s0 s1 s2
  rw [k0.1] at s0
  have HK0 := Lib.hid k0
  have HS0 := Lib.hid s0
  rw [k1.1] at s1
  have HK1 := Lib.hid k1
  have HS1 := Lib.hid s1
  rw [k2.1] at s2
  have HK2 := Lib.hid k2
  have HS2 := Lib.hid s2
  clear k0 k1 k2 s0 s1 s2
  have HC := Lib.hid (fun (X Y : World) (T T' : TypeId) (c c' : Array Value) (eY : Y = W.alloc (.cells #[.slice A0 n0 c0, .slice A1 n1 c1, .slice A2 n2 c2] T)) (eX : X = (Y.alloc (.cells c T')).alloc (.cells c' T')) =>
    (show RW T X W.heap.size #[.slice A0 n0 c0, .slice A1 n1 c1, .slice A2 n2 c2] ∧ RW T' X (W.heap.size + 1 + 1) c' ∧ RW T' X (W.heap.size + 1) c ∧ Below W.heap.size W X ∧ X.heap.size = W.heap.size + 3 from by
      subst eX; subst eY
      refine ⟨((RW.new W _ T).alloc _).alloc _, ?_, ?_, ((below_alloc _ _).alloc (by simp) _).alloc (by simp; omega) _, by simp⟩
      · have := RW.new ((W.alloc (.cells #[.slice A0 n0 c0, .slice A1 n1 c1, .slice A2 n2 c2] T)).alloc (.cells c T')) c' T'
        simpa using this
      · have := (RW.new (W.alloc (.cells #[.slice A0 n0 c0, .slice A1 n1 c1, .slice A2 n2 c2] T)) c T').alloc (.cells c' T')
        simpa using this))
  show Calls Tryd.prog 7 #[.agg #[.slice A0 n0 c0, .slice A1 n1 c1, .slice A2 n2 c2]] W _
  go_enter Tryd.func7, Tryd.ntmps7
  go_wp2_with (go_at_call 27; obtain ⟨g0, g1, g4, g2, g3⟩ := HC.out _ _ _ _ _ _ rfl rfl; have HQ := toBindingS_any A0 n0 c0 x0 _ (HK0.out.go g2) HS0.out; refine Calls.mono HQ ?_; clear HQ; rintro e w1 ⟨rfl, h⟩; obtain ⟨hv, hb⟩ := h.out; have hd := hv.det; rw [g3] at hv hd; have HA1 := Lib.hid (g0.below hb (by omega)); have HR1 := Lib.hid (g1.below hb (by omega)); have HO1 := Lib.hid (g4.below hb (by omega)); have HB1 := Lib.hid (g2.trans (hb.mono g2.size)); have HV1_0 : Hid (Det (W.heap.size + 1 + 1 + 1) w1.heap.size w1 fun w => BdI w w1.heap.size (some ⟨W.heap.size + 1 + 1 + 1, 0, none⟩) n0 x0) := hd; have HG1 : Hid (W.heap.size + 3 ≤ w1.heap.size) := (by have := hb.size; show _ ≤ _; omega); clear g0 g1 g2 g3 g4 h hv hd hb HK0; have q11 : w1.cell? ⟨W.heap.size, 1, none⟩ = some (.slice A1 n1 c1) := HA1.out.cell 1; have p10 : w1.cell? ⟨W.heap.size + 1 + 1, 0, none⟩ = some (.slice none 0 0) := HR1.out.cell 0; have f10 := HR1.out.frozen 0)
  go_wp2_with (go_at_call 28; have hbs : Below (W.heap.size + 2) w1 (w1.setCell ⟨W.heap.size + 1 + 1, 0, none⟩ (.slice (some ⟨W.heap.size + 1 + 1 + 1, 0, none⟩) n0 n0)) := below_set w1 (p := ⟨W.heap.size + 1 + 1, 0, none⟩) (B := W.heap.size + 2) (Nat.le_refl _) (.slice (some ⟨W.heap.size + 1 + 1 + 1, 0, none⟩) n0 n0); have hzz : (w1.setCell ⟨W.heap.size + 1 + 1, 0, none⟩ (.slice (some ⟨W.heap.size + 1 + 1 + 1, 0, none⟩) n0 n0)).heap.size = w1.heap.size := (by simp [World.setCell]); have HQ := toFunctionS_any A1 n1 c1 x1 (w1.setCell ⟨W.heap.size + 1 + 1, 0, none⟩ (.slice (some ⟨W.heap.size + 1 + 1 + 1, 0, none⟩) n0 n0)) (HK1.out.go (HB1.out.trans (hbs.mono (by omega)))) HS1.out.1 HS1.out.2; refine Calls.mono HQ ?_; clear HQ; rintro e w2 ⟨rfl, h⟩; obtain ⟨hv, hb, hd⟩ := h.out; rw [hzz] at hb hv hd; have hsz := hb.size; rw [hzz] at hsz; have hs1 := HG1.out; have HA2 := Lib.hid ((HA1.out.below hbs (by omega)).below hb (by omega)); have HR2 := Lib.hid (((HR1.out).set_ 0 (.slice (some ⟨W.heap.size + 1 + 1 + 1, 0, none⟩) n0 n0)).below hb (by omega)); have HO2 := Lib.hid ((HO1.out.below hbs (by omega)).below hb (by omega)); have HB2 := Lib.hid ((HB1.out.trans (hbs.mono (by omega))).trans (hb.mono (by omega))); have HG2 : Hid (W.heap.size + 3 ≤ w2.heap.size) := (Nat.le_trans hs1 hsz); have HV2_1 : Hid (Det (w1.heap.size) w2.heap.size w2 fun w => FnI w w2.heap.size (some ⟨w1.heap.size, 0, none⟩) n1 x1) := hd; have HZ2 : Hid (w1.heap.size ≠ W.heap.size + 1 + 1) := (by show _ ≠ _; omega); have HV2_0 := Lib.hid (((((HV1_0.out).set (p := ⟨W.heap.size + 1 + 1, 0, none⟩) (by have := HG1.out; dsimp only; omega) (.slice (some ⟨W.heap.size + 1 + 1 + 1, 0, none⟩) n0 n0)).below hb (by omega)).wide (Nat.le_refl _) hsz).imp fun w h => h.more hsz); clear hbs hzz hb hv hd h hsz hs1 HK1; have q22 : w2.cell? ⟨W.heap.size, 2, none⟩ = some (.slice A2 n2 c2) := HA2.out.cell 2; have p21 : w2.cell? ⟨W.heap.size + 1 + 1, 1, none⟩ = some (.slice none 0 0) := HR2.out.cell 1; have f21 := HR2.out.frozen 1)
  go_wp2_with (go_at_call 29; have hbs : Below (W.heap.size + 2) w2 (w2.setCell ⟨W.heap.size + 1 + 1, 1, none⟩ (.slice (some ⟨w1.heap.size, 0, none⟩) n1 n1)) := below_set w2 (p := ⟨W.heap.size + 1 + 1, 1, none⟩) (B := W.heap.size + 2) (Nat.le_refl _) (.slice (some ⟨w1.heap.size, 0, none⟩) n1 n1); have hzz : (w2.setCell ⟨W.heap.size + 1 + 1, 1, none⟩ (.slice (some ⟨w1.heap.size, 0, none⟩) n1 n1)).heap.size = w2.heap.size := (by simp [World.setCell]); have HQ := toRecordTypeS_any A2 n2 c2 x2 (w2.setCell ⟨W.heap.size + 1 + 1, 1, none⟩ (.slice (some ⟨w1.heap.size, 0, none⟩) n1 n1)) (HK2.out.go (HB2.out.trans (hbs.mono (by omega)))) HS2.out.1 HS2.out.2; refine Calls.mono HQ ?_; clear HQ; rintro e w3 ⟨rfl, h⟩; obtain ⟨hv, hb, hd⟩ := h.out; rw [hzz] at hb hv hd; have hsz := hb.size; rw [hzz] at hsz; have hs1 := HG2.out; have HA3 := Lib.hid ((HA2.out.below hbs (by omega)).below hb (by omega)); have HR3 := Lib.hid (((HR2.out).set_ 1 (.slice (some ⟨w1.heap.size, 0, none⟩) n1 n1)).below hb (by omega)); have HO3 := Lib.hid ((HO2.out.below hbs (by omega)).below hb (by omega)); have HB3 := Lib.hid ((HB2.out.trans (hbs.mono (by omega))).trans (hb.mono (by omega))); have HG3 : Hid (W.heap.size + 3 ≤ w3.heap.size) := (Nat.le_trans hs1 hsz); have HV3_2 : Hid (Det (w2.heap.size) w3.heap.size w3 fun w => RtI w w3.heap.size (some ⟨w2.heap.size, 0, none⟩) n2 x2) := hd; have HZ3 : Hid (w2.heap.size ≠ W.heap.size + 1 + 1) := (by show _ ≠ _; omega); have HV3_0 := Lib.hid (((((HV2_0.out).set (p := ⟨W.heap.size + 1 + 1, 1, none⟩) (by have := HG2.out; dsimp only; omega) (.slice (some ⟨w1.heap.size, 0, none⟩) n1 n1)).below hb (by omega)).wide (Nat.le_refl _) hsz).imp fun w h => h.more hsz); have HV3_1 := Lib.hid (((((HV2_1.out).set (p := ⟨W.heap.size + 1 + 1, 1, none⟩) (by have := HG1.out; dsimp only; omega) (.slice (some ⟨w1.heap.size, 0, none⟩) n1 n1)).below hb (by omega)).wide (Nat.le_refl _) hsz).imp fun w h => h.more hsz); clear hbs hzz hb hv hd h hsz hs1 HK2; have p32 : w3.cell? ⟨W.heap.size + 1 + 1, 2, none⟩ = some (.slice none 0 0) := HR3.out.cell 2; have f32 := HR3.out.frozen 2; have p30 : w3.cell? ⟨W.heap.size + 1 + 1, 0, none⟩ = some (.slice (some ⟨W.heap.size + 1 + 1 + 1, 0, none⟩) n0 n0) := HR3.out.cell 0; have p31 : w3.cell? ⟨W.heap.size + 1 + 1, 1, none⟩ = some (.slice (some ⟨w1.heap.size, 0, none⟩) n1 n1) := HR3.out.cell 1; have r0 : w3.cell? ⟨W.heap.size + 1, 0, none⟩ = some (.slice none 0 0) := HO3.out.cell 0; have z0 := HO3.out.frozen 0; have r1 : w3.cell? ⟨W.heap.size + 1, 1, none⟩ = some (.slice none 0 0) := HO3.out.cell 1; have z1 := HO3.out.frozen 1; have r2 : w3.cell? ⟨W.heap.size + 1, 2, none⟩ = some (.slice none 0 0) := HO3.out.cell 2; have z2 := HO3.out.frozen 2)
  have hs1 := HG3.out
  have hb1 : Below (W.heap.size + 1) w3 ((((w3.setCell ⟨W.heap.size + 1 + 1, 2, none⟩ (.slice (some ⟨w2.heap.size, 0, none⟩) n2 n2)).setCell ⟨W.heap.size + 1, 0, none⟩ (.slice (some ⟨W.heap.size + 1 + 1 + 1, 0, none⟩) n0 n0)).setCell ⟨W.heap.size + 1, 1, none⟩ (.slice (some ⟨w1.heap.size, 0, none⟩) n1 n1)).setCell ⟨W.heap.size + 1, 2, none⟩ (.slice (some ⟨w2.heap.size, 0, none⟩) n2 n2)) := ((((below_set w3 (p := ⟨W.heap.size + 1 + 1, 2, none⟩) (by simp) _).setCell (by simp) _).setCell (by simp) _).setCell (by simp) _)
  have hzz : ((((w3.setCell ⟨W.heap.size + 1 + 1, 2, none⟩ (.slice (some ⟨w2.heap.size, 0, none⟩) n2 n2)).setCell ⟨W.heap.size + 1, 0, none⟩ (.slice (some ⟨W.heap.size + 1 + 1 + 1, 0, none⟩) n0 n0)).setCell ⟨W.heap.size + 1, 1, none⟩ (.slice (some ⟨w1.heap.size, 0, none⟩) n1 n1)).setCell ⟨W.heap.size + 1, 2, none⟩ (.slice (some ⟨w2.heap.size, 0, none⟩) n2 n2)).heap.size = w3.heap.size := by simp [World.setCell]
  refine bodyPost_ret (v := .agg #[.slice (some ⟨W.heap.size + 1 + 1 + 1, 0, none⟩) n0 n0, .slice (some ⟨w1.heap.size, 0, none⟩) n1 n1, .slice (some ⟨w2.heap.size, 0, none⟩) n2 n2]) (results_cell_row Tryd.results7 _ _ (W.heap.size + 1) 36 _ (0, 0) _ rfl ((((((((HO3.out).other (p := ⟨W.heap.size + 1 + 1, 2, none⟩) (by simp) (.slice (some ⟨w2.heap.size, 0, none⟩) n2 n2))).set_ 0 (.slice (some ⟨W.heap.size + 1 + 1 + 1, 0, none⟩) n0 n0))).set_ 1 (.slice (some ⟨w1.heap.size, 0, none⟩) n1 n1))).set_ 2 (.slice (some ⟨w2.heap.size, 0, none⟩) n2 n2)) Tryd.underlying36 rfl (by kernel_rfl)) rfl ⟨⟨some ⟨W.heap.size + 1 + 1 + 1, 0, none⟩, n0, n0, Nat.le_refl _, some ⟨w1.heap.size, 0, none⟩, n1, n1, Nat.le_refl _, some ⟨w2.heap.size, 0, none⟩, n2, n2, Nat.le_refl _⟩, rfl, Lib.hid ⟨?_, HB3.out.trans (hb1.mono (by omega)), HV3_0.out.self.1.symm, HV3_1.out.self.1.symm, HV3_2.out.self.1.symm, _, _, _, rfl, rfl, rfl, by omega, by have := HG1.out; have := HG2.out; have := HG3.out; omega, by have := HG1.out; have := HG2.out; have := HG3.out; omega⟩⟩
  show ScV ((((w3.setCell ⟨W.heap.size + 1 + 1, 2, none⟩ (.slice (some ⟨w2.heap.size, 0, none⟩) n2 n2)).setCell ⟨W.heap.size + 1, 0, none⟩ (.slice (some ⟨W.heap.size + 1 + 1 + 1, 0, none⟩) n0 n0)).setCell ⟨W.heap.size + 1, 1, none⟩ (.slice (some ⟨w1.heap.size, 0, none⟩) n1 n1)).setCell ⟨W.heap.size + 1, 2, none⟩ (.slice (some ⟨w2.heap.size, 0, none⟩) n2 n2)) ((((w3.setCell ⟨W.heap.size + 1 + 1, 2, none⟩ (.slice (some ⟨w2.heap.size, 0, none⟩) n2 n2)).setCell ⟨W.heap.size + 1, 0, none⟩ (.slice (some ⟨W.heap.size + 1 + 1 + 1, 0, none⟩) n0 n0)).setCell ⟨W.heap.size + 1, 1, none⟩ (.slice (some ⟨w1.heap.size, 0, none⟩) n1 n1)).setCell ⟨W.heap.size + 1, 2, none⟩ (.slice (some ⟨w2.heap.size, 0, none⟩) n2 n2)).heap.size ⟨x0, x1, x2⟩ ⟨some ⟨W.heap.size + 1 + 1 + 1, 0, none⟩, n0, n0, Nat.le_refl _, some ⟨w1.heap.size, 0, none⟩, n1, n1, Nat.le_refl _, some ⟨w2.heap.size, 0, none⟩, n2, n2, Nat.le_refl _⟩
  rw [hzz]
  exact ⟨((((((((HV3_0.out).set (p := ⟨W.heap.size + 1 + 1, 2, none⟩) (by first | (dsimp only; omega) | omega) _)).set (p := ⟨W.heap.size + 1, 0, none⟩) (by first | (dsimp only; omega) | omega) _)).set (p := ⟨W.heap.size + 1, 1, none⟩) (by first | (dsimp only; omega) | omega) _)).set (p := ⟨W.heap.size + 1, 2, none⟩) (by first | (dsimp only; omega) | omega) _).self, ((((((((HV3_1.out).set (p := ⟨W.heap.size + 1 + 1, 2, none⟩) (by have := HG1.out; first | (dsimp only; omega) | omega) _)).set (p := ⟨W.heap.size + 1, 0, none⟩) (by have := HG1.out; first | (dsimp only; omega) | omega) _)).set (p := ⟨W.heap.size + 1, 1, none⟩) (by have := HG1.out; first | (dsimp only; omega) | omega) _)).set (p := ⟨W.heap.size + 1, 2, none⟩) (by have := HG1.out; first | (dsimp only; omega) | omega) _).self, ((((((((HV3_2.out).set (p := ⟨W.heap.size + 1 + 1, 2, none⟩) (by have := HG2.out; first | (dsimp only; omega) | omega) _)).set (p := ⟨W.heap.size + 1, 0, none⟩) (by have := HG2.out; first | (dsimp only; omega) | omega) _)).set (p := ⟨W.heap.size + 1, 1, none⟩) (by have := HG2.out; first | (dsimp only; omega) | omega) _)).set (p := ⟨W.heap.size + 1, 2, none⟩) (by have := HG2.out; first | (dsimp only; omega) | omega) _).self⟩

end Go.Proofs.YtflhjcdabbomiaaDoor

namespace Go.Proofs.YtflhjcdabbomiaaDoor
open Go Go.RowKit

set_option maxHeartbeats 1000000 in
set_option maxRecDepth 100000 in
theorem eqScope_same (x : Sc) (l l' : ScLay) (W : World) (ho : ScV W W.heap.size x l) (ho' : ScV W W.heap.size x l') :
    Calls Tryd.prog 10 #[x.ag l, x.ag l'] W fun e w' => e = .returned (.bool true) ∧ Below W.heap.size W w' := by
  obtain ⟨x0, x1, x2⟩ := x
  obtain ⟨A0, n0, c0, h0, A1, n1, c1, h1, A2, n2, c2, h2⟩ := l
  obtain ⟨A0', n0', c0', h0', A1', n1', c1', h1', A2', n2', c2', h2'⟩ := l'
  obtain ⟨k0, k1, k2⟩ := ho
  obtain ⟨j0, j1, j2⟩ := ho'
  try unfold ScV at k0 j0 k1 j1 k2 j2
  dsimp only at k0 j0 k1 j1 k2 j2
  obtain rfl : n0 = n0' := k0.1.symm.trans j0.1
  have HK0 := Lib.hid k0
  have HJ0 := Lib.hid j0
  obtain rfl : n1 = n1' := k1.1.symm.trans j1.1
  have HK1 := Lib.hid k1
  have HJ1 := Lib.hid j1
  obtain rfl : n2 = n2' := k2.1.symm.trans j2.1
  have HK2 := Lib.hid k2
  have HJ2 := Lib.hid j2
  clear k0 j0 k1 j1 k2 j2
  have HC := Lib.hid (two_new W 36 #[.slice A0 n0 c0, .slice A1 n1 c1, .slice A2 n2 c2] #[.slice A0' n0 c0', .slice A1' n1 c1', .slice A2' n2 c2'])
  show Calls Tryd.prog 10 #[.agg #[.slice A0 n0 c0, .slice A1 n1 c1, .slice A2 n2 c2], .agg #[.slice A0' n0 c0', .slice A1' n1 c1', .slice A2' n2 c2']] W _
  go_enter Tryd.func10, Tryd.ntmps10
  go_wp2_with (go_at_call 15; obtain ⟨g0, g1, g2, g3⟩ := HC.out _ rfl; have HQ := eqBindingS_same A0 A0' n0 c0 c0' x0 _ (HK0.out.go g2) (HJ0.out.go g2); refine Calls.mono HQ ?_; clear HQ; rintro e w1 ⟨rfl, hb⟩; have HA1 := Lib.hid (g0.below hb (by omega)); have HD1 := Lib.hid (g1.below hb (by omega)); have HB1 := Lib.hid (g2.trans (hb.mono g2.size)); have HG1 : Hid (W.heap.size + 2 ≤ w1.heap.size) := (by have := hb.size; show _ ≤ _; omega); have q11 : w1.cell? ⟨W.heap.size, 1, none⟩ = some (.slice A1 n1 c1) := HA1.out.cell 1; have p11 : w1.cell? ⟨W.heap.size + 1, 1, none⟩ = some (.slice A1' n1 c1') := HD1.out.cell 1; clear g0 g1 g2 g3 hb HK0)
  go_wp2_with (go_at_call 33; have HQ := eqFunctionS_same A1 A1' n1 c1 c1' x1 _ (HK1.out.go HB1.out) (HJ1.out.go HB1.out); refine Calls.mono HQ ?_; clear HQ; rintro e w2 ⟨rfl, hb⟩; have hg := HG1.out; have HA2 := Lib.hid (HA1.out.below hb (by omega)); have HD2 := Lib.hid (HD1.out.below hb (by omega)); have HB2 := Lib.hid (HB1.out.trans (hb.mono HB1.out.size)); have HG2 : Hid (W.heap.size + 2 ≤ w2.heap.size) := (Nat.le_trans hg hb.size); have q22 : w2.cell? ⟨W.heap.size, 2, none⟩ = some (.slice A2 n2 c2) := HA2.out.cell 2; have p22 : w2.cell? ⟨W.heap.size + 1, 2, none⟩ = some (.slice A2' n2 c2') := HD2.out.cell 2; clear hg hb HK1)
  go_wp2_with (go_at_call 34; have HQ := eqRecordTypeS_same A2 A2' n2 c2 c2' x2 _ (HK2.out.go HB2.out) (HJ2.out.go HB2.out); refine Calls.mono HQ ?_; clear HQ; rintro e w3 ⟨rfl, hb⟩; have hg := HG2.out; have HA3 := Lib.hid (HA2.out.below hb (by omega)); have HD3 := Lib.hid (HD2.out.below hb (by omega)); have HB3 := Lib.hid (HB2.out.trans (hb.mono HB2.out.size)); have HG3 : Hid (W.heap.size + 2 ≤ w3.heap.size) := (Nat.le_trans hg hb.size); clear hg hb HK2)
  all_goals go_ret
  all_goals exact ⟨rfl, HB3.out⟩

/-- Two in two blocks, and their lists. -/
def TwoSc (wr : World) (b b' p p' : Nat) (x y : Sc) (l l' : ScLay) (w : World) : Prop := ScAt w b p x l ∧ ScAt w b' p' y l' ∧ ScV w w.heap.size x l ∧ ScV w w.heap.size y l' ∧ Below wr.heap.size wr w ∧ b < w.heap.size ∧ b' < w.heap.size
theorem TwoSc.grow {wr w w' : World} {b b' p p' : Nat} {x y : Sc} {l l' : ScLay} (h : TwoSc wr b b' p p' x y l l' w) (hb : Below w.heap.size w w') : TwoSc wr b b' p p' x y l l' w' :=
  ⟨h.1.below hb h.2.2.2.2.2.1, h.2.1.below hb h.2.2.2.2.2.2, (h.2.2.1.below hb).more hb.size, (h.2.2.2.1.below hb).more hb.size, h.2.2.2.2.1.trans (hb.mono h.2.2.2.2.1.size), Nat.lt_of_lt_of_le h.2.2.2.2.2.1 hb.size, Nat.lt_of_lt_of_le h.2.2.2.2.2.2 hb.size⟩
/-- .. cell by cell, as the walk of a region asks it. -/
abbrev FlatSc (wr : World) (b b' p p' : Nat) (x y : Sc) (l l' : ScLay) (w : World) : Prop := (w.cell? ⟨b, p, none⟩ = some (.slice l.A0 l.n0 l.c0) ∧ w.cell? ⟨b, p + 1, none⟩ = some (.slice l.A1 l.n1 l.c1) ∧ w.cell? ⟨b, p + 2, none⟩ = some (.slice l.A2 l.n2 l.c2)) ∧ (w.cell? ⟨b', p', none⟩ = some (.slice l'.A0 l'.n0 l'.c0) ∧ w.cell? ⟨b', p' + 1, none⟩ = some (.slice l'.A1 l'.n1 l'.c1) ∧ w.cell? ⟨b', p' + 2, none⟩ = some (.slice l'.A2 l'.n2 l'.c2)) ∧ TwoSc wr b b' p p' x y l l' w
theorem TwoSc.flat {wr w : World} {b b' p p' : Nat} {x y : Sc} {l l' : ScLay} (h : TwoSc wr b b' p p' x y l l' w) : FlatSc wr b b' p p' x y l l' w := ⟨h.1, h.2.1, h⟩
theorem TwoSc.drew {wr : World} {b b' p p' : Nat} {x y : Sc} {l l' : ScLay} (h : TwoSc wr b b' p p' x y l l' wr) : TwoSc wr b b' p p' x y l l' wr.drew := h.grow (Below.refl _ _).drew

end Go.Proofs.YtflhjcdabbomiaaDoor
