/- Contract: Lookup (spec). No condition. -/
import Derived.Test.YtnedihiagaepjaaDoorLkS
namespace Go.Proofs.YtnedihiagaepjaaDoor
open Go Go.RowKit

theorem two_cells (W : World) (T T' : TypeId) (c c' : Array Value) (X : World) (e : X = (W.alloc (.cells c T)).alloc (.cells c' T')) : RW T X W.heap.size c ∧ RW T' X (W.heap.size + 1) c' ∧ Below W.heap.size W X := by
  subst e
  refine ⟨(RW.new W c T).alloc _, ?_, (below_alloc _ _).alloc (by simp) _⟩
  have := RW.new (W.alloc (.cells c T)) c' T'
  simpa using this

set_option maxHeartbeats 4000000 in
set_option maxRecDepth 100000 in
theorem spec_Lookup_no (x : Sc) (l : ScLay) (s : ByteArray) (W : World) (hv : ScV W W.heap.size x l) (hs : s.size ≤ maxLen) (hno : tt (ScOk x) = false ∨ isNameB s = false) :
    Calls Tryd.prog 6 #[x.ag l, .string s] W fun e w' => e = .returned (.tuple #[.agg #[.int .i64 0, .int .i64 0, .string ⟨#[]⟩, .int .i64 0], .int .i64 1]) ∧ Below W.heap.size W w' := by
  obtain ⟨x0, x1, x2⟩ := x
  obtain ⟨A0, n0, c0, h0, A1, n1, c1, h1, A2, n2, c2, h2⟩ := l
  show Calls Tryd.prog 6 #[.agg #[.slice A0 n0 c0, .slice A1 n1 c1, .slice A2 n2 c2], .string s] W _
  have HV := Lib.hid hv
  have HS := Lib.hid hs
  have HC := Lib.hid (two_cells W 36 29 #[.slice A0 n0 c0, .slice A1 n1 c1, .slice A2 n2 c2] #[.int .i64 0, .int .i64 0, .string ⟨#[]⟩, .int .i64 0])
  obtain ⟨z1, hz1⟩ : ∃ z, tt (ScOk (⟨x0, x1, x2⟩ : Sc)) = z := ⟨_, rfl⟩
  obtain ⟨z2, hz2⟩ : ∃ z, isNameB s = z := ⟨_, rfl⟩
  rw [hz1, hz2] at hno
  have HZ1 := Lib.hid hz1
  have HZ2 := Lib.hid hz2
  clear hv hs hz1 hz2
  cases z1
  · clear hno
    go_enter Tryd.func6, Tryd.ntmps6
    go_wp2_with (go_at_call 24; obtain ⟨g0, g1, g2⟩ := HC.out _ rfl; have HQ := spec_ValidScope_any ⟨x0, x1, x2⟩ ⟨A0, n0, c0, h0, A1, n1, c1, h1, A2, n2, c2, h2⟩ _ (HV.out.go g2); refine Calls.mono HQ ?_; clear HQ; rintro e w1 ⟨rfl, hb⟩; rw [HZ1.out]; have HB1 := Lib.hid (g2.trans (hb.mono g2.size)); have HA1 := Lib.hid (g0.below hb g0.lt); have HR1 := Lib.hid (g1.below hb g1.lt); have z0 := HR1.out.cell 0; have f0 := HR1.out.frozen 0; have z1 := HR1.out.cell 1; have f1 := HR1.out.frozen 1; have z2 := HR1.out.cell 2; have f2 := HR1.out.frozen 2; have z3 := HR1.out.cell 3; have f3 := HR1.out.frozen 3; clear g0 g1 g2 hb)
    exact bodyPost_ret (v := .tuple #[.agg #[.int .i64 0, .int .i64 0, .string ⟨#[]⟩, .int .i64 0], .int .i64 1]) (by rw [results_cell_tmp rfl]; go_simp) rfl ⟨rfl, (((HB1.out.setCell (p := ⟨W.heap.size + 1, 0, none⟩) (by simp) _).setCell (p := ⟨W.heap.size + 1, 1, none⟩) (by simp) _).setCell (p := ⟨W.heap.size + 1, 2, none⟩) (by simp) _).setCell (p := ⟨W.heap.size + 1, 3, none⟩) (by simp) _⟩
  obtain rfl : z2 = false := by rcases hno with h | h <;> first | (cases h; done) | exact h
  go_enter Tryd.func6, Tryd.ntmps6
  go_wp2_with (first | (go_at_call 24; obtain ⟨g0, g1, g2⟩ := HC.out _ rfl; have HQ := spec_ValidScope_any ⟨x0, x1, x2⟩ ⟨A0, n0, c0, h0, A1, n1, c1, h1, A2, n2, c2, h2⟩ _ (HV.out.go g2); refine Calls.mono HQ ?_; clear HQ; rintro e w1 ⟨rfl, hb⟩; rw [HZ1.out]; have HB1 := Lib.hid (g2.trans (hb.mono g2.size)); have HA1 := Lib.hid (g0.below hb g0.lt); have HR1 := Lib.hid (g1.below hb g1.lt); clear g0 g1 g2 hb) | (go_at_call 25; refine (spec_IsName_any s _ HS.out).mono ?_; rintro e w2 ⟨rfl, h⟩; obtain rfl := h; rw [HZ2.out]; have HB2 := HB1; have HA2 := HA1; have HR2 := HR1; have z0 := HR2.out.cell 0; have f0 := HR2.out.frozen 0; have z1 := HR2.out.cell 1; have f1 := HR2.out.frozen 1; have z2 := HR2.out.cell 2; have f2 := HR2.out.frozen 2; have z3 := HR2.out.cell 3; have f3 := HR2.out.frozen 3))
  exact bodyPost_ret (v := .tuple #[.agg #[.int .i64 0, .int .i64 0, .string ⟨#[]⟩, .int .i64 0], .int .i64 1]) (by rw [results_cell_tmp rfl]; go_simp) rfl ⟨rfl, (((HB2.out.setCell (p := ⟨W.heap.size + 1, 0, none⟩) (by simp) _).setCell (p := ⟨W.heap.size + 1, 1, none⟩) (by simp) _).setCell (p := ⟨W.heap.size + 1, 2, none⟩) (by simp) _).setCell (p := ⟨W.heap.size + 1, 3, none⟩) (by simp) _⟩

set_option maxHeartbeats 4000000 in
set_option maxRecDepth 100000 in
theorem spec_Lookup_yes (x : Sc) (l : ScLay) (s : ByteArray) (k n : Int) (t : ByteArray) (r : Int) (W : World) (hv : ScV W W.heap.size x l) (hs : s.size ≤ maxLen) (h1 : tt (ScOk x) = true) (h2 : isNameB s = true) (hl : LookP x.vars_ s k n t r) :
    Calls Tryd.prog 6 #[x.ag l, .string s] W fun e w' => e = .returned (.tuple #[.agg #[.int .i64 k, .int .i64 n, .string t, .int .i64 r], .int .i64 0]) ∧ Below W.heap.size W w' := by
  have HZ2 := Lib.hid h2
  have HZ1 := Lib.hid h1
  have HL := Lib.hid hl
  clear h1 h2 hl
  obtain ⟨x0, x1, x2⟩ := x
  obtain ⟨A0, n0, c0, h0, A1, n1, c1, h1, A2, n2, c2, h2⟩ := l
  show Calls Tryd.prog 6 #[.agg #[.slice A0 n0 c0, .slice A1 n1 c1, .slice A2 n2 c2], .string s] W _
  have HV := Lib.hid hv
  have HS := Lib.hid hs
  have HC := Lib.hid (two_cells W 36 29 #[.slice A0 n0 c0, .slice A1 n1 c1, .slice A2 n2 c2] #[.int .i64 0, .int .i64 0, .string ⟨#[]⟩, .int .i64 0])
  clear hv hs
  go_enter Tryd.func6, Tryd.ntmps6
  go_wp2_with (first | (go_at_call 24; obtain ⟨g0, g1, g2⟩ := HC.out _ rfl; have HQ := spec_ValidScope_any ⟨x0, x1, x2⟩ ⟨A0, n0, c0, h0, A1, n1, c1, h1, A2, n2, c2, h2⟩ _ (HV.out.go g2); refine Calls.mono HQ ?_; clear HQ; rintro e w1 ⟨rfl, hb⟩; rw [HZ1.out]; have HB1 := Lib.hid (g2.trans (hb.mono g2.size)); have HA1 := Lib.hid (g0.below hb g0.lt); have HR1 := Lib.hid (g1.below hb g1.lt); clear g0 g1 g2 hb) | (go_at_call 25; refine (spec_IsName_any s _ HS.out).mono ?_; rintro e w2 ⟨rfl, h⟩; obtain rfl := h; rw [HZ2.out]; have HB2 := HB1; have HA2 := HA1; have HR2 := HR1; have q0 : w1.cell? ⟨W.heap.size, 0, none⟩ = some (.slice A0 n0 c0) := HA2.out.cell 0; have q1 : w1.cell? ⟨W.heap.size, 1, none⟩ = some (.slice A1 n1 c1) := HA2.out.cell 1; have q2 : w1.cell? ⟨W.heap.size, 2, none⟩ = some (.slice A2 n2 c2) := HA2.out.cell 2) | (go_at_call 26; have HQ := l18Value_any A0 A1 A2 n0 c0 n1 c1 n2 c2 x0 s k n t r _ (HV.out.1.go HB2.out) HL.out; refine Calls.mono HQ ?_; clear HQ; rintro e w3 ⟨rfl, hb⟩; have HB3 := Lib.hid (HB2.out.trans (hb.mono HB2.out.size)); have HR3 := Lib.hid (HR2.out.below hb HR2.out.lt); have z0 := HR3.out.cell 0; have f0 := HR3.out.frozen 0; have z1 := HR3.out.cell 1; have f1 := HR3.out.frozen 1; have z2 := HR3.out.cell 2; have f2 := HR3.out.frozen 2; have z3 := HR3.out.cell 3; have f3 := HR3.out.frozen 3; clear hb q0 q1 q2))
  exact bodyPost_ret (v := .tuple #[.agg #[.int .i64 k, .int .i64 n, .string t, .int .i64 r], .int .i64 0]) (by rw [results_cell_tmp rfl]; go_simp) rfl ⟨rfl, (((HB3.out.setCell (p := ⟨W.heap.size + 1, 0, none⟩) (by simp) _).setCell (p := ⟨W.heap.size + 1, 1, none⟩) (by simp) _).setCell (p := ⟨W.heap.size + 1, 2, none⟩) (by simp) _).setCell (p := ⟨W.heap.size + 1, 3, none⟩) (by simp) _⟩
end Go.Proofs.YtnedihiagaepjaaDoor
