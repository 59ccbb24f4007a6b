/- laws.eqObject, eqObjectS, eqHeap where both are the same. No condition. -/
import Derived.Test.YtbdmanadmckjjaaDoorObsTo2
import Derived.Test.YtbdmanadmckjjaaDoorVlsEq
namespace Go.Proofs.YtbdmanadmckjjaaDoor
open Go Go.RowKit

set_option maxHeartbeats 1000000 in
set_option maxRecDepth 100000 in
theorem eqObject_same (o : Ob) (l l' : Lay) (W : World) (ho : OV W W.heap.size o l) (ho' : OV W W.heap.size o l') :
    Calls Tryd.prog 28 #[o.ag l, o.ag l'] W fun e w' => e = .returned (.bool true) ∧ Below W.heap.size W w' := by
  obtain ⟨id, kind, name, low, ks, vs, ⟨dk, dn, dt, dr⟩⟩ := o
  obtain ⟨Ak, nk, ck, Av, nv, cv, hck, hcv⟩ := l
  obtain ⟨Ak', nk', ck', Av', nv', cv', hck', hcv'⟩ := l'
  obtain ⟨hk, hv, _, _⟩ := ho
  obtain ⟨hk', hv', _, _⟩ := ho'
  dsimp only at hk hv hk' hv'
  obtain rfl : nk = nk' := hk.1.symm.trans hk'.1
  obtain rfl : nv = nv' := hv.1.symm.trans hv'.1
  have HK := Lib.hid hk
  have HV := Lib.hid hv
  have HK' := Lib.hid hk'
  have HV' := Lib.hid hv'
  clear hk hv hk' hv'
  have HC := Lib.hid (two_new W 49 #[.int .i64 id, .int .i64 kind, .string name, .int .i64 low, .slice Ak nk ck, .slice Av nv cv, .int .i64 dk, .int .i64 dn, .string dt, .int .i64 dr] #[.int .i64 id, .int .i64 kind, .string name, .int .i64 low, .slice Ak' nk ck', .slice Av' nv cv', .int .i64 dk, .int .i64 dn, .string dt, .int .i64 dr])
  show Calls Tryd.prog 28 #[.agg #[.int .i64 id, .int .i64 kind, .string name, .int .i64 low, .slice Ak nk ck, .slice Av nv cv, .int .i64 dk, .int .i64 dn, .string dt, .int .i64 dr], .agg #[.int .i64 id, .int .i64 kind, .string name, .int .i64 low, .slice Ak' nk ck', .slice Av' nv cv', .int .i64 dk, .int .i64 dn, .string dt, .int .i64 dr]] W _
  go_enter Tryd.func28, Tryd.ntmps28
  go_wp2_with (go_at_call 25; obtain ⟨g0, g1, g2, g3⟩ := HC.out _ rfl; have HQ := eqValueS_same Ak Ak' nk ck ck' ks _ (HK.out.go g2) (HK'.out.go g2); refine Calls.mono HQ ?_; clear HQ; rintro e w1 ⟨rfl, hb⟩; have HA1 := Lib.hid (g0.below hb (by omega)); have HD1 := Lib.hid (g1.below hb (by omega)); have HB1 := Lib.hid (g2.trans (hb.mono g2.size)); have HG1 : Hid (W.heap.size + 2 ≤ w1.heap.size) := (by have := hb.size; show _ ≤ _; omega); have q5 : w1.cell? ⟨W.heap.size, 5, none⟩ = some (.slice Av nv cv) := HA1.out.cell 5; have p5 : w1.cell? ⟨W.heap.size + 1, 5, none⟩ = some (.slice Av' nv cv') := HD1.out.cell 5; clear g0 g1 g2 g3 hb HK)
  go_wp2_with (go_at_call 25; have HQ := eqValueS_same Av Av' nv cv cv' vs _ (HV.out.go HB1.out) (HV'.out.go HB1.out); refine Calls.mono HQ ?_; clear HQ; rintro e w2 ⟨rfl, hb⟩; have hg := HG1.out; have HA2 := Lib.hid (HA1.out.below hb (by omega)); have HD2 := Lib.hid (HD1.out.below hb (by omega)); have HB2 := Lib.hid (HB1.out.trans (hb.mono HB1.out.size)); have q6 : w2.cell? ⟨W.heap.size, 6, none⟩ = some (.int .i64 dk) := HA2.out.cell 6; have q7 : w2.cell? ⟨W.heap.size, 7, none⟩ = some (.int .i64 dn) := HA2.out.cell 7; have q8 : w2.cell? ⟨W.heap.size, 8, none⟩ = some (.string dt) := HA2.out.cell 8; have q9 : w2.cell? ⟨W.heap.size, 9, none⟩ = some (.int .i64 dr) := HA2.out.cell 9; have p6 : w2.cell? ⟨W.heap.size + 1, 6, none⟩ = some (.int .i64 dk) := HD2.out.cell 6; have p7 : w2.cell? ⟨W.heap.size + 1, 7, none⟩ = some (.int .i64 dn) := HD2.out.cell 7; have p8 : w2.cell? ⟨W.heap.size + 1, 8, none⟩ = some (.string dt) := HD2.out.cell 8; have p9 : w2.cell? ⟨W.heap.size + 1, 9, none⟩ = some (.int .i64 dr) := HD2.out.cell 9; clear hg hb q5 p5 HV)
  go_wp2_with (go_at_call 49; refine (eqValue_same _ _ _ _ _).mono ?_; rintro e w3 ⟨rfl, hb⟩; have HB3 := Lib.hid (HB2.out.trans (hb.mono HB2.out.size)); clear hb q6 q7 q8 q9 p6 p7 p8 p9)
  all_goals go_ret
  all_goals exact ⟨rfl, HB3.out⟩

/-- Ten cells as a range. -/
theorem O10.range {w : World} {b p : Nat} {o : Ob} {l : Lay} (h : O10 w b p o l) : w.rangeAt b p (o.vs l) := by
  obtain ⟨h0, h1, h2, h3, h4, h5, h6, h7, h8, h9⟩ := h
  intro j v hj
  match j, hj with
  | 0, hj => cases hj; exact h0
  | 1, hj => cases hj; exact h1
  | 2, hj => cases hj; exact h2
  | 3, hj => cases hj; exact h3
  | 4, hj => cases hj; exact h4
  | 5, hj => cases hj; exact h5
  | 6, hj => cases hj; exact h6
  | 7, hj => cases hj; exact h7
  | 8, hj => cases hj; exact h8
  | 9, hj => cases hj; exact h9
  | j + 10, hj => simp [Ob.vs] at hj
/-- An object's load, as the walk meets it. -/
theorem O10.load {w : World} {b p : Nat} {o : Ob} {l : Lay} (h : O10 w b p o l) : (Instr.loadAt 49 (.pointer (some ⟨b, p, none⟩))).run Tryd.prog w = .ok (o.ag l) w :=
  run_loadAt_mid w b p 49 (o.vs l) _ h.range Tryd.underlying49 rfl (by kernel_rfl)

/-- Two objects in two blocks, and their lists. -/
def TwoO (wr : World) (b b' p p' : Nat) (o : Ob) (l l' : Lay) (w : World) : Prop := O10 w b p o l ∧ O10 w b' p' o l' ∧ OV w w.heap.size o l ∧ OV w w.heap.size o l' ∧ Below wr.heap.size wr w ∧ b < w.heap.size ∧ b' < w.heap.size
theorem TwoO.grow {wr w w' : World} {b b' p p' : Nat} {o : Ob} {l l' : Lay} (h : TwoO wr b b' p p' o l l' w) (hb : Below w.heap.size w w') : TwoO wr b b' p p' o l l' w' :=
  ⟨h.1.below hb h.2.2.2.2.2.1, h.2.1.below hb h.2.2.2.2.2.2, (h.2.2.1.below hb).more hb.size, (h.2.2.2.1.below hb).more hb.size, h.2.2.2.2.1.trans (hb.mono h.2.2.2.2.1.size), Nat.lt_of_lt_of_le h.2.2.2.2.2.1 hb.size, Nat.lt_of_lt_of_le h.2.2.2.2.2.2 hb.size⟩
/-- .. cell by cell, as the walk of a region asks it. -/
abbrev FlatO (wr : World) (b b' p p' : Nat) (o : Ob) (l l' : Lay) (w : World) : Prop := (w.cell? ⟨b, p, none⟩ = some (.int .i64 o.id) ∧ w.cell? ⟨b, p + 1, none⟩ = some (.int .i64 o.kind) ∧ w.cell? ⟨b, p + 2, none⟩ = some (.string o.name) ∧ w.cell? ⟨b, p + 3, none⟩ = some (.int .i64 o.low) ∧ w.cell? ⟨b, p + 4, none⟩ = some (.slice l.Ak l.nk l.ck) ∧ w.cell? ⟨b, p + 5, none⟩ = some (.slice l.Av l.nv l.cv) ∧ w.cell? ⟨b, p + 6, none⟩ = some (.int .i64 o.d.k) ∧ w.cell? ⟨b, p + 7, none⟩ = some (.int .i64 o.d.n) ∧ w.cell? ⟨b, p + 8, none⟩ = some (.string o.d.t) ∧ w.cell? ⟨b, p + 9, none⟩ = some (.int .i64 o.d.r)) ∧ (w.cell? ⟨b', p', none⟩ = some (.int .i64 o.id) ∧ w.cell? ⟨b', p' + 1, none⟩ = some (.int .i64 o.kind) ∧ w.cell? ⟨b', p' + 2, none⟩ = some (.string o.name) ∧ w.cell? ⟨b', p' + 3, none⟩ = some (.int .i64 o.low) ∧ w.cell? ⟨b', p' + 4, none⟩ = some (.slice l'.Ak l'.nk l'.ck) ∧ w.cell? ⟨b', p' + 5, none⟩ = some (.slice l'.Av l'.nv l'.cv) ∧ w.cell? ⟨b', p' + 6, none⟩ = some (.int .i64 o.d.k) ∧ w.cell? ⟨b', p' + 7, none⟩ = some (.int .i64 o.d.n) ∧ w.cell? ⟨b', p' + 8, none⟩ = some (.string o.d.t) ∧ w.cell? ⟨b', p' + 9, none⟩ = some (.int .i64 o.d.r)) ∧ TwoO wr b b' p p' o l l' w
theorem TwoO.flat {wr w : World} {b b' p p' : Nat} {o : Ob} {l l' : Lay} (h : TwoO wr b b' p p' o l l' w) : FlatO wr b b' p p' o l l' w := ⟨h.1, h.2.1, h⟩
theorem TwoO.drew {wr : World} {b b' p p' : Nat} {o : Ob} {l l' : Lay} (h : TwoO wr b b' p p' o l l' wr) : TwoO wr b b' p p' o l l' wr.drew := h.grow (Below.refl _ _).drew

set_option maxHeartbeats 1000000 in
set_option maxRecDepth 100000 in
theorem eqObjectS_same (A A' : Option Addr) (n c c' : Nat) (os : List Ob) (W : World) (ha : OI W W.heap.size A n os) (hb : OI W W.heap.size A' n os) :
    Calls Tryd.prog 43 #[.slice A n c, .slice A' n c'] W fun e w' => e = .returned (.bool true) ∧ Below W.heap.size W w' := by
  have HA := Lib.hid ha
  have HB := Lib.hid hb
  have hn := ha.2.1
  unfold maxLen at hn
  clear ha hb
  go_enter Tryd.func43, Tryd.ntmps43
  go_wp2
  go_loopw [5] (fun i wr => ∃ k : Nat, k ≤ n ∧ i = .int .i64 k ∧ Hid (Below W.heap.size W wr)) (fun i _ => n - (intOf i).toNat)
  case atStart => exact ⟨0, Nat.zero_le _, rfl, Below.refl _ _⟩
  case round =>
    obtain ⟨k, hk, rfl, HW⟩ := hrel
    by_cases hlt : k < n
    · obtain ⟨b, off, o, l, rfl, hg, hx, h1, hv1⟩ := (HA.out.go HW.out).at_ hlt
      obtain ⟨b', off', o', l', rfl, hg', hx', h2, hv2⟩ := (HB.out.go HW.out).at_ hlt
      obtain rfl : o = o' := Option.some.inj (hx.symm.trans hx')
      have H0 := Lib.hid (show TwoO wr b b' (off + k * 10) (off' + k * 10) o l l' wr from ⟨h1, h2, hv1, hv2, Below.refl _ _, hg, hg'⟩)
      have b0 : (0 : Int) ≤ (k : Int) := by omega
      have b1 : (k : Int) < (n : Int) := by omega
      clear h1 h2 hv1 hv2 hx hx' hg hg'
      go_wp2_with fail
      go_region_held3 (fun w' => FlatO wr b b' (off + k * 10) (off' + k * 10) o l l' w')
        (first | exact H0.out.drew.flat | exact (TwoO.grow H0.out.drew hb).flat | go_keep)
        ((go_at_call 28; have HS := H0.out.drew; have HQ := eqObject_same o l l' _ HS.2.2.1 HS.2.2.2.1; refine Calls.mono HQ ?_; clear HQ; rintro e w1 ⟨rfl, hb⟩))
      go_wp2_with fail
      go_split_ands
      have h2 : TwoO wr b b' (off + k * 10) (off' + k * 10) o l l' _ := ‹_›
      go_roundw
      case rel => exact ⟨k + 1, by omega, by go_num, HW.out.trans (h2.2.2.2.2.1.mono HW.out.size)⟩
      case measure => simp [intOf]; omega
    · go_wp2_with fail
      go_ret
      exact ⟨rfl, HW.out⟩
end Go.Proofs.YtbdmanadmckjjaaDoor
