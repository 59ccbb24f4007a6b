/- The law's walk: FnExactHeapSize. Condition: the table holds what the program's text lays. -/
import Derived.Test.YtbdmanadmckjjaaDoorHpLaw
import Derived.Test.YtbdmanadmckjjaaDoorHpOk
import Derived.Test.YtbdmanadmckjjaaDoorHpSize
import Derived.Test.YtbdmanadmckjjaaDoorCards
namespace Go.Proofs.YtbdmanadmckjjaaDoor
open Go Go.RowKit

set_option maxHeartbeats 4000000 in
set_option maxRecDepth 100000 in
theorem walk_FnExactHeapSize (nx : Int) (A : Option Addr) (n c : Nat) (os : List Ob) (W : World) (ha : OI W W.heap.size A n os) (hL : laidMetH Tryd.prog Rows.fnExactHeapSizeRow.laid W) :
    Calls Tryd.prog 5 #[.agg #[.int .i64 nx, .slice A n c]] W fun e w' => e = .returned (.bool true) ∧ Below W.heap.size W w' := by
  have hT : Classes W := Lib.tabIs_of_head (rest := []) gClasses (by kernel_rfl) Tryd.underlying119 Tryd.underlying5 (by kernel_rfl) (by kernel_rfl) hL
  have HT := Lib.hid hT
  clear hL hT
  have HA := Lib.hid ha
  have hx := ha.1
  have HC := Lib.hid (fun X (e : X = W.alloc (.cells #[.int .i64 nx, .slice A n c] 24)) => (show LawH W W.heap.size nx A n c X from by rw [e]; exact ⟨RW.new _ _ _, below_alloc _ _⟩))
  clear ha
  by_cases c1 : (szH os : Int) ≤ 1048576
  · have C1 := Lib.hid c1
    obtain ⟨hs1, hl1⟩ := small_of_sz c1
    rw [hx] at hl1
    have TA := Lib.hid (fun (w : World) (h : LawH W W.heap.size nx A n c w) => toHeap_any nx A n c os w (HA.out.go h.2) hs1 hl1)
    clear c1 hs1 hl1 hx
    obtain ⟨P, hP⟩ : ∃ P, sizeH nx os = P := ⟨_, rfl⟩
    have HP := Lib.hid hP
    clear hP
    have tk1 : True := trivial
    have tk2 : True := trivial
    go_enter Tryd.func5, Tryd.ntmps5
    go_wp2_with (go_at_call 10; have g := HC.out _ rfl; have HQ := szHeap_any nx A n c os 1048576 _ (HA.out.go g.2) (by decide) (by decide); refine Calls.mono HQ ?_; clear HQ; intro e w1 h; obtain ⟨z1, rfl, hz1, l1, u1, hb⟩ := h.fits C1.out (by decide); have d1 : decide (z1 < 0) = false := (by simp; omega); have H1 := Lib.hid (g.grow hb); have p0 : w1.cell? ⟨W.heap.size, 0, none⟩ = some (.int .i64 nx) := H1.out.1.cell 0; have p1 : w1.cell? ⟨W.heap.size, 1, none⟩ = some (.slice A n c) := H1.out.1.cell 1; clear g h hb hz1 HC)
    go_wp2_with (first
      | (go_at_call 12; have tk := tk1; refine Calls.mono (TA.out _ H1.out) ?_; rintro e w2 ⟨gA, rfl, h⟩; obtain ⟨hv, hb⟩ := h.out; have H2 := Lib.hid (H1.out.grow hb); have HV2 := Lib.hid hv; clear h hv hb tk tk1 p0 p1)
      | (go_at_call 19; refine Calls.mono (spec_HeapSize_any nx (some ⟨gA, 0, none⟩) n n os _ HV2.out) ?_; rintro e w3 ⟨rfl, hb⟩; rw [HP.out]; have H3 := Lib.hid (H2.out.grow hb); have p0 : w3.cell? ⟨W.heap.size, 0, none⟩ = some (.int .i64 nx) := H3.out.1.cell 0; have p1 : w3.cell? ⟨W.heap.size, 1, none⟩ = some (.slice A n c) := H3.out.1.cell 1; clear hb H2 H1 HV2)
      | (go_at_call 12; have tk := tk2; refine Calls.mono (TA.out _ H3.out) ?_; rintro e w4 ⟨gB, rfl, h⟩; obtain ⟨hv, hb⟩ := h.out; have H4 : Hid (LawC W W.heap.size nx A n c w4.heap.size gB os (w4.alloc (.cells #[.int .i64 nx, .slice (some ⟨gB, 0, none⟩) n n] 29))) := ⟨(H3.out.grow hb).grow (below_alloc _ _), RW.new _ _ _, hv.alloc _⟩; clear h hv hb tk tk2 p0 p1)
      | (go_at_call 20; refine Calls.mono (impl_HeapSize_any nx gB 0 n n os _ H4.out.2.2 (classes_go HT.out H4.out.1.2)) ?_; rintro e w5 ⟨rfl, hb⟩; rw [HP.out]; have H5 := Lib.hid (H4.out.grow hb); clear hb H4 H3))
    have H9 := Lib.hid (H5.out.grow (Below.refl _ _).drew)
    go_region_held3 (fun w => FlatH W W.heap.size nx A n c w4.heap.size gB os w)
      (first | exact H9.out.flat | exact H10.out.flat | exact H11.out.flat | go_keep)
      ((first
        | (go_at_call 12; refine Calls.mono (TA.out _ H9.out.1) ?_; rintro e w6 ⟨gC, rfl, h⟩; obtain ⟨hv, hb⟩ := h.out; have HVC := Lib.hid hv; have H10 := Lib.hid (H9.out.grow hb); clear h hv hb)
        | (go_at_call 14; refine Calls.mono (eqHeap_same nx (some ⟨gB, 0, none⟩) (some ⟨gC, 0, none⟩) n n n os _ H10.out.2.2 HVC.out) ?_; rintro e w7 ⟨rfl, hb⟩; have H11 := Lib.hid (H10.out.grow hb); clear hb)))
    go_split_ands
    go_wp2_with fail
    go_ret
    exact ⟨rfl, H11.out.1.2⟩
  · have C1 := Lib.hid c1
    clear c1
    go_enter Tryd.func5, Tryd.ntmps5
    go_wp2_with (go_at_call 10; have g := HC.out _ rfl; have HQ := szHeap_any nx A n c os 1048576 _ (HA.out.go g.2) (by decide) (by decide); refine Calls.mono HQ ?_; clear HQ; intro e w1 h; obtain ⟨rfl, hb⟩ := h.long C1.out; have HB1 := Lib.hid (g.grow hb).2; clear g h hb HC)
    go_ret
    exact ⟨rfl, HB1.out⟩
end Go.Proofs.YtbdmanadmckjjaaDoor
