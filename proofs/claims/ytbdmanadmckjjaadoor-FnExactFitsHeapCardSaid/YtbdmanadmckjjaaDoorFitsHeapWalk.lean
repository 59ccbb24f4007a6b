/- The law's walk: FnExactFitsHeap. Condition: the table holds what the program's text lays. -/
import Derived.Test.YtbdmanadmckjjaaDoorHpLaw
import Derived.Test.YtbdmanadmckjjaaDoorHpOk
import Derived.Test.YtbdmanadmckjjaaDoorFitsH
import Derived.Test.YtbdmanadmckjjaaDoorCards
namespace Go.Proofs.YtbdmanadmckjjaaDoor
open Go Go.RowKit

/-- The law's heap and value in their blocks. -/
def LawHV (W : World) (nx : Int) (A : Option Addr) (n c : Nat) (k m : Int) (t : ByteArray) (r : Int) (w : World) : Prop := LawH W W.heap.size nx A n c w ∧ RW 34 w (W.heap.size + 1) #[.int .i64 k, .int .i64 m, .string t, .int .i64 r]
/-- .. and the heap's copy in block q. -/
def LawCV (W : World) (nx : Int) (A : Option Addr) (n c : Nat) (k m : Int) (t : ByteArray) (r : Int) (q g : Nat) (os : List Ob) (w : World) : Prop := LawC W W.heap.size nx A n c q g os w ∧ RW 34 w (W.heap.size + 1) #[.int .i64 k, .int .i64 m, .string t, .int .i64 r]
abbrev FlatHV (W : World) (nx : Int) (A : Option Addr) (n c : Nat) (k m : Int) (t : ByteArray) (r : Int) (w : World) : Prop :=
  (w.cell? ⟨W.heap.size, 0, none⟩ = some (.int .i64 nx) ∧ w.cell? ⟨W.heap.size, 1, none⟩ = some (.slice A n c)) ∧ (w.cell? ⟨W.heap.size + 1, 0, none⟩ = some (.int .i64 k) ∧ w.cell? ⟨W.heap.size + 1, 1, none⟩ = some (.int .i64 m) ∧ w.cell? ⟨W.heap.size + 1, 2, none⟩ = some (.string t) ∧ w.cell? ⟨W.heap.size + 1, 3, none⟩ = some (.int .i64 r)) ∧ LawHV W nx A n c k m t r w
abbrev FlatCV (W : World) (nx : Int) (A : Option Addr) (n c : Nat) (k m : Int) (t : ByteArray) (r : Int) (q g : Nat) (os : List Ob) (w : World) : Prop :=
  (w.cell? ⟨W.heap.size, 0, none⟩ = some (.int .i64 nx) ∧ w.cell? ⟨W.heap.size, 1, none⟩ = some (.slice A n c)) ∧ (w.cell? ⟨W.heap.size + 1, 0, none⟩ = some (.int .i64 k) ∧ w.cell? ⟨W.heap.size + 1, 1, none⟩ = some (.int .i64 m) ∧ w.cell? ⟨W.heap.size + 1, 2, none⟩ = some (.string t) ∧ w.cell? ⟨W.heap.size + 1, 3, none⟩ = some (.int .i64 r)) ∧
  (w.cell? ⟨q, 0, none⟩ = some (.int .i64 nx) ∧ w.cell? ⟨q, 1, none⟩ = some (.slice (some ⟨g, 0, none⟩) n n)) ∧ LawCV W nx A n c k m t r q g os w
section
variable {W w w' : World} {nx : Int} {A : Option Addr} {n c : Nat} {k m : Int} {t : ByteArray} {r : Int} {q g : Nat} {os : List Ob}
theorem LawHV.grow (h : LawHV W nx A n c k m t r w) (hb : Below w.heap.size w w') : LawHV W nx A n c k m t r w' := ⟨h.1.grow hb, h.2.below hb h.2.lt⟩
theorem LawCV.grow (h : LawCV W nx A n c k m t r q g os w) (hb : Below w.heap.size w w') : LawCV W nx A n c k m t r q g os w' := ⟨h.1.grow hb, h.2.below hb h.2.lt⟩
theorem LawHV.flat (h : LawHV W nx A n c k m t r w) : FlatHV W nx A n c k m t r w := ⟨⟨h.1.1.cell 0, h.1.1.cell 1⟩, ⟨h.2.cell 0, h.2.cell 1, h.2.cell 2, h.2.cell 3⟩, h⟩
theorem LawCV.flat (h : LawCV W nx A n c k m t r q g os w) : FlatCV W nx A n c k m t r q g os w := ⟨⟨h.1.1.1.cell 0, h.1.1.1.cell 1⟩, ⟨h.2.cell 0, h.2.cell 1, h.2.cell 2, h.2.cell 3⟩, ⟨h.1.2.1.cell 0, h.1.2.1.cell 1⟩, h⟩
end

set_option maxHeartbeats 4000000 in
set_option maxRecDepth 100000 in
theorem walk_FnExactFitsHeap (nx : Int) (A : Option Addr) (n c : Nat) (os : List Ob) (k m : Int) (t : ByteArray) (r : Int) (_ : (Lit.int .i64 k).wf = true) (_ : (Lit.int .i64 m).wf = true) (w0 : t.size ≤ maxLen) (_ : (Lit.int .i64 r).wf = true) (W : World) (ha : OI W W.heap.size A n os) (hL : laidMetH Tryd.prog Rows.fnExactFitsHeapRow.laid W) :
    Calls Tryd.prog 4 #[.agg #[.int .i64 nx, .slice A n c], .agg #[.int .i64 k, .int .i64 m, .string t, .int .i64 r]] W fun e w' => e = .returned (.bool true) ∧ Below W.heap.size W w' := by
  have hT : Classes W := Lib.tabIs_of_head (rest := []) gClasses (by kernel_rfl) Tryd.underlying119 Tryd.underlying5 (by kernel_rfl) (by kernel_rfl) hL
  have HT := Lib.hid hT
  clear hL hT
  have HA := Lib.hid ha
  have HX := Lib.hid w0
  have hx := ha.1
  have HC := Lib.hid (fun X T T' (e : X = (W.alloc (.cells #[.int .i64 nx, .slice A n c] T)).alloc (.cells #[.int .i64 k, .int .i64 m, .string t, .int .i64 r] T')) => (show RW T X W.heap.size #[.int .i64 nx, .slice A n c] ∧ RW T' X (W.heap.size + 1) #[.int .i64 k, .int .i64 m, .string t, .int .i64 r] ∧ Below W.heap.size W X from by
    subst e
    refine ⟨(RW.new W _ T).alloc _, ?_, (below_alloc _ _).alloc (by simp) _⟩
    have := RW.new (W.alloc (.cells #[.int .i64 nx, .slice A n c] T)) #[.int .i64 k, .int .i64 m, .string t, .int .i64 r] T'
    simpa using this))
  unfold maxLen at w0
  clear ha
  by_cases c1 : (szH os : Int) ≤ 1048576
  · have C1 := Lib.hid c1
    obtain ⟨hs1, hl1⟩ := small_of_sz c1
    rw [hx] at hl1
    have TA := Lib.hid (fun (w : World) (h : LawHV W nx A n c k m t r w) => toHeap_any nx A n c os w (HA.out.go h.1.2) hs1 hl1)
    have SZ := Lib.hid (fun w (hw : Below W.heap.size W w) => szHeap_any nx A n c os 1048576 w (HA.out.go hw) (by decide) (by decide))
    by_cases c2 : (t.size : Int) ≤ 1048576 - (szH os : Int)
    · have C2 := Lib.hid c2
      clear c1 c2 hs1 hl1 hx
      obtain ⟨P, hP⟩ : ∃ P, tt (ValidH nx os ∧ Fits os ⟨k, m, t, r⟩) = P := ⟨_, rfl⟩
      have HP := Lib.hid hP
      clear hP
      go_enter Tryd.func4, Tryd.ntmps4
      go_wp2_with (go_at_call 10; obtain ⟨g0, g1, g2⟩ := HC.out _ _ _ rfl; refine Calls.mono (SZ.out _ g2) ?_; intro e w1 h; obtain ⟨z1, rfl, hz1, l1, u1, hb⟩ := h.fits C1.out (by decide); have Z1 := Lib.hid hz1; have L1 := Lib.hid l1; have U1 := Lib.hid u1; have d1 : decide (z1 < 0) = false := (by simp; omega); have gg : LawHV W nx A n c k m t r _ := ⟨⟨g0, g2⟩, g1⟩; have H1 := Lib.hid (gg.grow hb); have q0 : w1.cell? ⟨W.heap.size + 1, 0, none⟩ = some (.int .i64 k) := H1.out.2.cell 0; have q1 : w1.cell? ⟨W.heap.size + 1, 1, none⟩ = some (.int .i64 m) := H1.out.2.cell 1; have q2 : w1.cell? ⟨W.heap.size + 1, 2, none⟩ = some (.string t) := H1.out.2.cell 2; have q3 : w1.cell? ⟨W.heap.size + 1, 3, none⟩ = some (.int .i64 r) := H1.out.2.cell 3; clear gg g0 g1 g2 h hb hz1 HC)
      go_wp2_with (go_at_call 15; have HQ := szValue_L ⟨k, m, t, r⟩ z1 w1 L1.out U1.out HX.out; refine Calls.mono HQ ?_; clear HQ; intro e w2 h; obtain ⟨z2, rfl, hz2, l2, u2, hb⟩ := h.fits (by have := C2.out; have := Z1.out; dsimp only; omega) U1.out; have d2 : decide (z2 < 0) = false := (by simp; omega); have H2 := Lib.hid (H1.out.grow hb); clear h hb hz2 q0 q1 q2 q3)
      have H0 := Lib.hid (H2.out.grow (Below.refl _ _).drew)
      go_region_held3 (fun w => FlatHV W nx A n c k m t r w)
        (first | exact H0.out.flat | exact H3.out.flat | exact H4.out.flat | exact H5.out.flat | go_keep)
        ((first
          | (go_at_call 12; refine Calls.mono (TA.out _ H0.out) ?_; rintro e w3 ⟨gA, rfl, h⟩; obtain ⟨hv, hb⟩ := h.out; have H3 := Lib.hid (H0.out.grow hb); have HV3 := Lib.hid hv; clear h hv hb)
          | (go_at_call 17; refine Calls.mono (toValue_any _ _ _ _ _) ?_; rintro e w4 ⟨rfl, hb⟩; have H4 := Lib.hid (H3.out.grow hb); have HV4 := Lib.hid (HV3.out.go hb); clear hb)
          | (go_at_call 16; refine Calls.mono (spec_FitsHeap_any nx _ n n os ⟨k, m, t, r⟩ _ HV4.out HX.out) ?_; rintro e w5 ⟨rfl, hb⟩; rw [HP.out]; have H5 := Lib.hid (H4.out.grow hb); clear hb)))
      have p0 : w5.cell? ⟨W.heap.size, 0, none⟩ = some (.int .i64 nx) := H5.out.1.1.cell 0
      have p1 : w5.cell? ⟨W.heap.size, 1, none⟩ = some (.slice A n c) := H5.out.1.1.cell 1
      clear H0 H1 H2 H3 H4 HV3 HV4
      go_split_ands
      go_wp2_with (go_at_call 12; refine Calls.mono (TA.out _ H5.out) ?_; rintro e w6 ⟨gB, rfl, h⟩; obtain ⟨hv, hb⟩ := h.out; have H6 : Hid (LawCV W nx A n c k m t r w6.heap.size gB os (w6.alloc (.cells #[.int .i64 nx, .slice (some ⟨gB, 0, none⟩) n n] 29))) := ⟨⟨(H5.out.1.grow hb).grow (below_alloc _ _), RW.new _ _ _, hv.alloc _⟩, (H5.out.2.below hb H5.out.2.lt).alloc _⟩; clear h hv hb p0 p1)
      have H7 := Lib.hid (H6.out.grow (Below.refl _ _).drew)
      clear H5 H6
      go_region_held3 (fun w => FlatCV W nx A n c k m t r w6.heap.size gB os w)
        (first | exact H7.out.flat | exact H8.out.flat | exact H9.out.flat | go_keep)
        ((first
          | (go_at_call 17; refine Calls.mono (toValue_any _ _ _ _ _) ?_; rintro e w8 ⟨rfl, hb⟩; have H8 := Lib.hid (H7.out.grow hb); clear hb)
          | (go_at_call 18; refine Calls.mono (impl_FitsHeap_any nx gB 0 n n os ⟨k, m, t, r⟩ _ H8.out.1.2.2 HX.out (classes_go HT.out H8.out.1.1.2)) ?_; rintro e w9 ⟨rfl, hb⟩; rw [HP.out]; have H9 := Lib.hid (H8.out.grow hb); clear hb)))
      clear H7 H8
      go_split_ands
      go_wp2_with fail
      have H10 := Lib.hid (H9.out.grow (Below.refl _ _).drew)
      go_region_held3 (fun w => FlatCV W nx A n c k m t r w6.heap.size gB os w)
        (first | exact H10.out.flat | exact H11.out.flat | exact H12.out.flat | go_keep)
        ((first
          | (go_at_call 12; refine Calls.mono (TA.out _ ⟨H10.out.1.1, H10.out.2⟩) ?_; rintro e w11 ⟨gC, rfl, h⟩; obtain ⟨hv, hb⟩ := h.out; have HVC := Lib.hid hv; have H11 := Lib.hid (H10.out.grow hb); clear h hv hb)
          | (go_at_call 14; refine Calls.mono (eqHeap_same nx (some ⟨gB, 0, none⟩) (some ⟨gC, 0, none⟩) n n n os _ H11.out.1.2.2 HVC.out) ?_; rintro e w12 ⟨rfl, hb⟩; have H12 := Lib.hid (H11.out.grow hb); clear hb)))
      go_split_ands
      go_wp2_with fail
      go_ret
      exact ⟨rfl, H12.out.1.1.2⟩
    · have C2 := Lib.hid c2
      clear c1 c2
      go_enter Tryd.func4, Tryd.ntmps4
      go_wp2_with (go_at_call 10; obtain ⟨g0, g1, g2⟩ := HC.out _ _ _ rfl; refine Calls.mono (SZ.out _ g2) ?_; intro e w1 h; obtain ⟨z1, rfl, hz1, l1, u1, hb⟩ := h.fits C1.out (by decide); have Z1 := Lib.hid hz1; have L1 := Lib.hid l1; have U1 := Lib.hid u1; have d1 : decide (z1 < 0) = false := (by simp; omega); have gg : LawHV W nx A n c k m t r _ := ⟨⟨g0, g2⟩, g1⟩; have H1 := Lib.hid (gg.grow hb); have q0 : w1.cell? ⟨W.heap.size + 1, 0, none⟩ = some (.int .i64 k) := H1.out.2.cell 0; have q1 : w1.cell? ⟨W.heap.size + 1, 1, none⟩ = some (.int .i64 m) := H1.out.2.cell 1; have q2 : w1.cell? ⟨W.heap.size + 1, 2, none⟩ = some (.string t) := H1.out.2.cell 2; have q3 : w1.cell? ⟨W.heap.size + 1, 3, none⟩ = some (.int .i64 r) := H1.out.2.cell 3; clear gg g0 g1 g2 h hb hz1 HC)
      go_wp2_with (go_at_call 15; have HQ := szValue_L ⟨k, m, t, r⟩ z1 w1 L1.out U1.out HX.out; refine Calls.mono HQ ?_; clear HQ; intro e w2 h; obtain ⟨rfl, hb⟩ := h.long (by have := C2.out; have := Z1.out; dsimp only; omega); have H2 := Lib.hid (H1.out.grow hb); clear h hb q0 q1 q2 q3)
      go_ret
      exact ⟨rfl, H2.out.1.2⟩
  · have C1 := Lib.hid c1
    clear c1
    go_enter Tryd.func4, Tryd.ntmps4
    go_wp2_with (go_at_call 10; obtain ⟨g0, g1, g2⟩ := HC.out _ _ _ rfl; have HQ := szHeap_any nx A n c os 1048576 _ (HA.out.go g2) (by decide) (by decide); refine Calls.mono HQ ?_; clear HQ; intro e w1 h; obtain ⟨rfl, hb⟩ := h.long C1.out; have HB1 := Lib.hid (g2.trans (hb.mono g2.size)); clear g0 g1 g2 h hb HC)
    go_ret
    exact ⟨rfl, HB1.out⟩
end Go.Proofs.YtbdmanadmckjjaaDoor
