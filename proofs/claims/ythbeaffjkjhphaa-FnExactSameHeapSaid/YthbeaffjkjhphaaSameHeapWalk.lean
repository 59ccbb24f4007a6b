/- The law's walk: FnExactSameHeap. No condition. -/
import Derived.Test.YthbeaffjkjhphaaSameSp
namespace Go.Proofs.Ythbeaffjkjhphaa
open Go Go.RowKit Go.Sort

/-- The law's two arguments lie in blocks g, g + 1. -/
def LawS (W : World) (nx : Int) (A : Option Addr) (n c : Nat) (nx' : Int) (A' : Option Addr) (n' c' : Nat) (w : World) : Prop :=
  RW 24 w W.heap.size #[.int .i64 nx, .slice A n c] ∧ RW 24 w (W.heap.size + 1) #[.int .i64 nx', .slice A' n' c'] ∧ Below W.heap.size W w
theorem LawS.grow {W w w' : World} {nx nx' : Int} {A A' : Option Addr} {n c n' c' : Nat} (h : LawS W nx A n c nx' A' n' c' w) (hb : Below w.heap.size w w') : LawS W nx A n c nx' A' n' c' w' :=
  ⟨h.1.below hb h.1.lt, h.2.1.below hb h.2.1.lt, h.2.2.trans (hb.mono h.2.2.size)⟩
abbrev FlatS (W : World) (nx : Int) (A : Option Addr) (n c : Nat) (nx' : Int) (A' : Option Addr) (n' c' : Nat) (w : World) : Prop :=
  (w.cell? ⟨W.heap.size, 0, none⟩ = some (.int .i64 nx) ∧ w.cell? ⟨W.heap.size, 1, none⟩ = some (.slice A n c) ∧ w.cell? ⟨W.heap.size + 1, 0, none⟩ = some (.int .i64 nx') ∧ w.cell? ⟨W.heap.size + 1, 1, none⟩ = some (.slice A' n' c')) ∧ LawS W nx A n c nx' A' n' c' w
theorem LawS.flat {W w : World} {nx nx' : Int} {A A' : Option Addr} {n c n' c' : Nat} (h : LawS W nx A n c nx' A' n' c' w) : FlatS W nx A n c nx' A' n' c' w :=
  ⟨⟨h.1.cell 0, h.1.cell 1, h.2.1.cell 0, h.2.1.cell 1⟩, h⟩
/-- .. and the two copies in blocks p, q. -/
def LawT (W : World) (nx : Int) (A : Option Addr) (n c : Nat) (nx' : Int) (A' : Option Addr) (n' c' : Nat) (p q : Nat) (G G' : Option Addr) (os os' : List Ob) (w : World) : Prop :=
  LawS W nx A n c nx' A' n' c' w ∧ RW 29 w p #[.int .i64 nx, .slice G n n] ∧ RW 29 w q #[.int .i64 nx', .slice G' n' n'] ∧ OI w w.heap.size G n os ∧ OI w w.heap.size G' n' os'
section
variable {W w w' : World} {nx nx' : Int} {A A' G G' : Option Addr} {n c n' c' p q : Nat} {os os' : List Ob}
theorem LawT.grow (h : LawT W nx A n c nx' A' n' c' p q G G' os os' w) (hb : Below w.heap.size w w') : LawT W nx A n c nx' A' n' c' p q G G' os os' w' :=
  ⟨h.1.grow hb, h.2.1.below hb h.2.1.lt, h.2.2.1.below hb h.2.2.1.lt, h.2.2.2.1.go hb, h.2.2.2.2.go hb⟩
abbrev FlatT (W : World) (nx : Int) (A : Option Addr) (n c : Nat) (nx' : Int) (A' : Option Addr) (n' c' : Nat) (p q : Nat) (G G' : Option Addr) (os os' : List Ob) (w : World) : Prop :=
  (w.cell? ⟨W.heap.size, 0, none⟩ = some (.int .i64 nx) ∧ w.cell? ⟨W.heap.size, 1, none⟩ = some (.slice A n c) ∧ w.cell? ⟨W.heap.size + 1, 0, none⟩ = some (.int .i64 nx') ∧ w.cell? ⟨W.heap.size + 1, 1, none⟩ = some (.slice A' n' c')) ∧
  (w.cell? ⟨p, 0, none⟩ = some (.int .i64 nx) ∧ w.cell? ⟨p, 1, none⟩ = some (.slice G n n) ∧ w.cell? ⟨q, 0, none⟩ = some (.int .i64 nx') ∧ w.cell? ⟨q, 1, none⟩ = some (.slice G' n' n')) ∧ LawT W nx A n c nx' A' n' c' p q G G' os os' w
theorem LawT.flat (h : LawT W nx A n c nx' A' n' c' p q G G' os os' w) : FlatT W nx A n c nx' A' n' c' p q G G' os os' w :=
  ⟨⟨h.1.1.cell 0, h.1.1.cell 1, h.1.2.1.cell 0, h.1.2.1.cell 1⟩, ⟨h.2.1.cell 0, h.2.1.cell 1, h.2.2.1.cell 0, h.2.2.1.cell 1⟩, h⟩
end

set_option maxHeartbeats 4000000 in
set_option maxRecDepth 100000 in
theorem walk_FnExactSameHeap (nx : Int) (A : Option Addr) (n c : Nat) (os : List Ob) (nx' : Int) (A' : Option Addr) (n' c' : Nat) (os' : List Ob) (W : World) (ha : OI W W.heap.size A n os) (hb : OI W W.heap.size A' n' os') :
    Calls Try.prog 3 #[.agg #[.int .i64 nx, .slice A n c], .agg #[.int .i64 nx', .slice A' n' c']] W fun e w' => e = .returned (.bool true) ∧ Below W.heap.size W w' := by
  have HA := Lib.hid ha
  have HB := Lib.hid hb
  have hx := ha.1
  have hx' := hb.1
  have HC := Lib.hid (two_new W 24 #[.int .i64 nx, .slice A n c] #[.int .i64 nx', .slice A' n' c'])
  clear ha hb
  by_cases c1 : (szH os : Int) ≤ 1048576
  · have C1 := Lib.hid c1
    obtain ⟨hs1, hl1⟩ := small_of_sz c1
    by_cases c2 : (szH os' : Int) ≤ 1048576 - (szH os : Int)
    · have C2 := Lib.hid c2
      obtain ⟨hs2, hl2⟩ := small_of_sz (show (szH os' : Int) ≤ 1048576 by omega)
      rw [hx] at hl1
      rw [hx'] at hl2
      have TA := Lib.hid (fun (w : World) (h : LawS W nx A n c nx' A' n' c' w) => toHeap_any nx A n c os w (HA.out.go h.2.2) hs1 hl1)
      have TB := Lib.hid (fun (w : World) (h : LawS W nx A n c nx' A' n' c' w) => toHeap_any nx' A' n' c' os' w (HB.out.go h.2.2) hs2 hl2)
      have TA2 := TA
      have TB2 := TB
      have TA3 := TA
      have TB3 := TB
      clear c1 c2 hs1 hs2 hl1 hl2 hx hx'
      obtain ⟨P, hP⟩ : ∃ P, tt (nx = nx' ∧ os = os') = P := ⟨_, rfl⟩
      have HP := Lib.hid hP
      clear hP
      go_enter Try.func3, Try.ntmps3
      go_wp2_with (go_at_call 4; obtain ⟨g0, g1, g2, g3⟩ := HC.out _ rfl; have HQ := szHeap_any nx A n c os 1048576 _ (HA.out.go g2) (by decide) (by decide); refine Calls.mono HQ ?_; clear HQ; intro e w1 h; obtain ⟨z1, rfl, hz1, l1, u1, hb⟩ := h.fits C1.out (by decide); have Z1 := Lib.hid hz1; have d1 : decide (z1 < 0) = false := (by simp; omega); have L1 := Lib.hid l1; have U1 := Lib.hid u1; have HS1 : Hid (LawS W nx A n c nx' A' n' c' w1) := ⟨g0.below hb (by omega), g1.below hb (by omega), g2.trans (hb.mono g2.size)⟩; have p0 : w1.cell? ⟨W.heap.size + 1, 0, none⟩ = some (.int .i64 nx') := HS1.out.2.1.cell 0; have p1 : w1.cell? ⟨W.heap.size + 1, 1, none⟩ = some (.slice A' n' c') := HS1.out.2.1.cell 1; clear g0 g1 g2 g3 h hb hz1 HC)
      go_wp2_with (go_at_call 4; have HQ := szHeap_any nx' A' n' c' os' z1 w1 (HB.out.go HS1.out.2.2) L1.out U1.out; refine Calls.mono HQ ?_; clear HQ; intro e w2 h; obtain ⟨z2, rfl, hz2, l2, u2, hb⟩ := h.fits (by have := C2.out; have := Z1.out; omega) U1.out; have d2 : decide (z2 < 0) = false := (by simp; omega); have HS2 : Hid (LawS W nx A n c nx' A' n' c' w2) := HS1.out.grow hb; clear h hb hz2 p0 p1 HS1)
      have H0 := Lib.hid (HS2.out.grow (Below.refl _ _).drew)
      go_region_held3 (fun w' => FlatS W nx A n c nx' A' n' c' w')
        (first | exact H0.out.flat | exact HS3.out.flat | exact HS4.out.flat | exact HS5.out.flat | go_keep)
        ((first
          | (go_at_call 6; have tk := TA; have HQ := TA.out _ H0.out; refine Calls.mono HQ ?_; clear HQ tk TA; rintro e w3 ⟨gA, rfl, h⟩; obtain ⟨hvA, hb⟩ := h.out; have HVA := Lib.hid hvA; have HS3 := Lib.hid (H0.out.grow hb); clear h hvA hb)
          | (go_at_call 6; have tk := TB; have HQ := TB.out _ HS3.out; refine Calls.mono HQ ?_; clear HQ tk TB; rintro e w4 ⟨gB, rfl, h⟩; obtain ⟨hvB, hb⟩ := h.out; have HVB := Lib.hid hvB; have HBB := Lib.hid hb; have HS4 := Lib.hid (HS3.out.grow hb); clear h hvB hb)
          | (go_at_call 5; have HQ := spec_SameHeap_any nx nx' (some ⟨gA, 0, none⟩) (some ⟨gB, 0, none⟩) n n' n n' os os' _ (HVA.out.go HBB.out) HVB.out; refine Calls.mono HQ ?_; clear HQ; rintro e w5 ⟨rfl, hb⟩; rw [HP.out]; have HS5 := Lib.hid (HS4.out.grow hb); clear hb)))
      have p0 : w5.cell? ⟨W.heap.size, 0, none⟩ = some (.int .i64 nx) := HS5.out.1.cell 0
      have p1 : w5.cell? ⟨W.heap.size, 1, none⟩ = some (.slice A n c) := HS5.out.1.cell 1
      clear HVA HVB HBB HS2 H0 HS3 HS4
      go_split_ands
      go_wp2_with (first
        | (go_at_call 6; have tk := TA2; have HQ := TA2.out _ HS5.out; refine Calls.mono HQ ?_; clear HQ tk TA2; rintro e w6 ⟨gX, rfl, h⟩; obtain ⟨hv, hb⟩ := h.out; have HV6 := Lib.hid hv; have HS6 := Lib.hid (HS5.out.grow hb); have HX7 := Lib.hid (fun (cs : Array Value) (T : TypeId) => HS6.out.grow (below_alloc w6 (.cells cs T))); have q0 : w6.cell? ⟨W.heap.size + 1, 0, none⟩ = some (.int .i64 nx') := HS6.out.2.1.cell 0; have q1 : w6.cell? ⟨W.heap.size + 1, 1, none⟩ = some (.slice A' n' c') := HS6.out.2.1.cell 1; have L6 := HS6.out.2.1.lt; clear h hv hb p0 p1)
        | (go_at_call 6; have tk := TB2; have hx7 := HX7.out #[.int .i64 nx, .slice (some ⟨gX, 0, none⟩) n n] 29; have HQ := TB2.out _ hx7; refine Calls.mono HQ ?_; clear HQ tk TB2; rintro e w7 ⟨gY, rfl, h⟩; obtain ⟨hv, hb⟩ := h.out; have hl6 : w6.heap.size < w7.heap.size := Nat.lt_of_lt_of_le (lt_alloc _ _) hb.size; have hz7 : OI w7 w7.heap.size (some ⟨gX, 0, none⟩) n os := (HV6.out.go (below_alloc w6 (.cells #[.int .i64 nx, .slice (some ⟨gX, 0, none⟩) n n] 29))).go hb; have HR7 := Lib.hid ((RW.new w6 #[.int .i64 nx, .slice (some ⟨gX, 0, none⟩) n n] 29).below hb (lt_alloc _ _)); have HT8 : Hid (LawT W nx A n c nx' A' n' c' w6.heap.size w7.heap.size (some ⟨gX, 0, none⟩) (some ⟨gY, 0, none⟩) os os' (w7.alloc (.cells #[.int .i64 nx', .slice (some ⟨gY, 0, none⟩) n' n'] 29))) := ⟨(hx7.grow hb).grow (below_alloc _ _), HR7.out.alloc _, RW.new w7 _ _, hz7.go (below_alloc _ _), hv.go (below_alloc _ _)⟩; have r0 : w7.cell? ⟨w6.heap.size, 0, none⟩ = some (.int .i64 nx) := HR7.out.cell 0; have r1 : w7.cell? ⟨w6.heap.size, 1, none⟩ = some (.slice (some ⟨gX, 0, none⟩) n n) := HR7.out.cell 1; clear h hv hb q0 q1 hx7 HX7 HS6)
        | (go_at_call 7; have HQ := impl_SameHeap_any nx nx' (some ⟨gX, 0, none⟩) (some ⟨gY, 0, none⟩) n n' n n' os os' _ HT8.out.2.2.2.1 HT8.out.2.2.2.2; refine Calls.mono HQ ?_; clear HQ; rintro e w9 ⟨rfl, hb⟩; rw [HP.out]; have HT9 := Lib.hid (HT8.out.grow hb); clear hb r0 r1 HT8 L6 hl6))
      have H9 := Lib.hid (HT9.out.grow (Below.refl _ _).drew)
      go_region_held3 (fun w' => FlatT W nx A n c nx' A' n' c' w6.heap.size w7.heap.size (some ⟨gX, 0, none⟩) (some ⟨gY, 0, none⟩) os os' w')
        (first | exact H9.out.flat | exact HT10.out.flat | exact HT11.out.flat | go_keep)
        ((first
          | (go_at_call 6; have tk := TA3; have HQ := TA3.out _ H9.out.1; refine Calls.mono HQ ?_; clear HQ tk TA3; rintro e w10 ⟨gC, rfl, h⟩; obtain ⟨hv, hb⟩ := h.out; have HVC := Lib.hid hv; have HT10 := Lib.hid (H9.out.grow hb); clear h hv hb)
          | (go_at_call 8; have HQ := eqHeap_same nx (some ⟨gX, 0, none⟩) (some ⟨gC, 0, none⟩) n n n os _ HT10.out.2.2.2.1 HVC.out; refine Calls.mono HQ ?_; clear HQ; rintro e w11 ⟨rfl, hb⟩; have HT11 := Lib.hid (HT10.out.grow hb); clear hb)))
      clear H9 HT10 HT9
      go_split_ands
      go_wp2_with fail
      have H11 := Lib.hid (HT11.out.grow (Below.refl _ _).drew)
      go_region_held3 (fun w' => FlatT W nx A n c nx' A' n' c' w6.heap.size w7.heap.size (some ⟨gX, 0, none⟩) (some ⟨gY, 0, none⟩) os os' w')
        (first | exact H11.out.flat | exact HT12.out.flat | exact HT13.out.flat | go_keep)
        ((first
          | (go_at_call 6; have tk := TB3; have HQ := TB3.out _ H11.out.1; refine Calls.mono HQ ?_; clear HQ tk TB3; rintro e w12 ⟨gD, rfl, h⟩; obtain ⟨hv, hb⟩ := h.out; have HVD := Lib.hid hv; have HT12 := Lib.hid (H11.out.grow hb); clear h hv hb)
          | (go_at_call 8; have HQ := eqHeap_same nx' (some ⟨gY, 0, none⟩) (some ⟨gD, 0, none⟩) n' n' n' os' _ HT12.out.2.2.2.2 HVD.out; refine Calls.mono HQ ?_; clear HQ; rintro e w13 ⟨rfl, hb⟩; have HT13 := Lib.hid (HT12.out.grow hb); clear hb)))
      clear H11 HT12 HT11
      go_split_ands
      go_wp2_with fail
      go_ret
      exact ⟨rfl, HT13.out.1.2.2⟩
    · have C2 := Lib.hid c2
      go_enter Try.func3, Try.ntmps3
      go_wp2_with (go_at_call 4; obtain ⟨g0, g1, g2, g3⟩ := HC.out _ rfl; have HQ := szHeap_any nx A n c os 1048576 _ (HA.out.go g2) (by decide) (by decide); refine Calls.mono HQ ?_; clear HQ; intro e w1 h; obtain ⟨z1, rfl, hz1, l1, u1, hb⟩ := h.fits C1.out (by decide); have Z1 := Lib.hid hz1; have d1 : decide (z1 < 0) = false := (by simp; omega); have L1 := Lib.hid l1; have U1 := Lib.hid u1; have HS1 : Hid (LawS W nx A n c nx' A' n' c' w1) := ⟨g0.below hb (by omega), g1.below hb (by omega), g2.trans (hb.mono g2.size)⟩; have p0 : w1.cell? ⟨W.heap.size + 1, 0, none⟩ = some (.int .i64 nx') := HS1.out.2.1.cell 0; have p1 : w1.cell? ⟨W.heap.size + 1, 1, none⟩ = some (.slice A' n' c') := HS1.out.2.1.cell 1; clear g0 g1 g2 g3 h hb hz1 HC)
      go_wp2_with (go_at_call 4; have HQ := szHeap_any nx' A' n' c' os' z1 w1 (HB.out.go HS1.out.2.2) L1.out U1.out; refine Calls.mono HQ ?_; clear HQ; intro e w2 h; obtain ⟨rfl, hb⟩ := h.long (by have := C2.out; have := Z1.out; omega); have HS2 : Hid (LawS W nx A n c nx' A' n' c' w2) := HS1.out.grow hb; clear h hb p0 p1 HS1)
      go_ret
      exact ⟨rfl, HS2.out.2.2⟩
  · have C1 := Lib.hid c1
    go_enter Try.func3, Try.ntmps3
    go_wp2_with (go_at_call 4; obtain ⟨g0, g1, g2, g3⟩ := HC.out _ rfl; have HQ := szHeap_any nx A n c os 1048576 _ (HA.out.go g2) (by decide) (by decide); refine Calls.mono HQ ?_; clear HQ; intro e w1 h; obtain ⟨rfl, hb⟩ := h.long C1.out; have HB1 := Lib.hid (g2.trans (hb.mono g2.size)); clear g0 g1 g2 g3 h hb HC)
    go_ret
    exact ⟨rfl, HB1.out⟩
end Go.Proofs.Ythbeaffjkjhphaa
