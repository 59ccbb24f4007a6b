/- Contracts: place of the program at bindings (sort.Search through a closure), and the closure. No condition but that the names rise. -/
import Derived.Test.YtnedihiagaepjaaDoorLkPl
import Derived.Test.YtnedihiagaepjaaDoorSearch
import Derived.Test.YtnedihiagaepjaaDoorLimBd
import Derived.Test.YtnedihiagaepjaaDoorLkM
namespace Go.Proofs.YtnedihiagaepjaaDoor
open Go Go.RowKit Go.Sort

set_option maxHeartbeats 4000000 in
set_option maxRecDepth 100000 in
theorem placeC_any (g2 g3 : Nat) (A : Option Addr) (n c h : Nat) (xs : List Bd) (s : ByteArray) (x : Bd) (W : World) (h2 : W.cell? ⟨g2, 0, none⟩ = some (.slice A n c)) (h3 : W.cell? ⟨g3, 0, none⟩ = some (.string s)) (hI : BdI W W.heap.size A n xs) (hh : h < n) (hx : xs[h]? = some x) :
    Calls Tryd.prog 76 (#[.int .i64 h] ++ #[.pointer (some ⟨g2, 0, none⟩), .pointer (some ⟨g3, 0, none⟩)]) W fun e w' => e = .returned (.bool (!(Op.bytesLess x.name_.toList s.toList))) ∧ Below W.heap.size W w' := by
  have hn := hI.2.1
  unfold maxLen at hn
  obtain ⟨b, off, y, rfl, hg, hy, ⟨q0, q1, q2, q3, q4⟩, _⟩ := hI.at_ hh
  obtain rfl : x = y := Option.some.inj (hx.symm.trans hy)
  have b0 : (0 : Int) ≤ (h : Int) := by omega
  have b1 : (h : Int) < (n : Int) := by omega
  have hmx := method_keyBd (.string x.name_) (.int .i64 x.kind_) (.int .i64 x.num_) (.string x.text_) (.int .i64 x.ref_)
  obtain ⟨z, hz⟩ : ∃ z, Op.bytesLess x.name_.toList s.toList = z := ⟨_, rfl⟩
  rw [hz]
  have HKX := Lib.hid (fun w => keyBd_any x w)
  clear hx hy hI hg
  show Calls Tryd.prog 76 #[.int .i64 h, .pointer (some ⟨g2, 0, none⟩), .pointer (some ⟨g3, 0, none⟩)] W _
  go_enter Tryd.func76, Tryd.ntmps76
  go_wp2_with fail
  obtain ⟨w0, hw0⟩ : ∃ w0, W = w0 := ⟨_, rfl⟩
  have x0 := cell_regrown q0
  have x1 := cell_regrown q1
  have x2 := cell_regrown q2
  have x3 := cell_regrown q3
  have x4 := cell_regrown q4
  have y2 := cell_regrown h2
  have y3 := cell_regrown h3
  have cX : ∀ d os', Calls Tryd.prog 94 #[.agg #[.string x.name_, .int .i64 x.kind_, .int .i64 x.num_, .string x.text_, .int .i64 x.ref_]] (grow (redrawn W d) os') (fun e w'' => e = .returned (.string x.name_) ∧ ∃ q : Regrown, w'' = grow (redrawn W q.d) q.os) := fun d os' => Calls.regrown_of (HKX.out _)
  clear hw0 q0 q1 q2 q3 q4 h2 h3
  refine wp_region_quiet_below (by kernel_rfl) (by kernel_rfl) ?_
  repeat (first | go_big_quiet_step (with_reducible exact cX _ _) | quiet_step (with_reducible exact cX _ _))
  refine wpQuiet_nil ?_
  intro w4 hw'
  obtain ⟨⟨dq, osq⟩, hw''⟩ := hw'
  have HB4 : Hid (Below W.heap.size W w4) := by show Below _ _ _; rw [hw'']; exact below_regrown W dq osq
  clear hw'' x0 x1 x2 x3 x4 y2 y3 cX
  go_wp2_with fail
  go_ret
  exact ⟨rfl, HB4.out⟩

theorem place_bool {xs : List Bd} {s : ByteArray} {m h : Nat} {x : Bd} (hp : PlaceP Bd.name_ xs s m) (hx : xs[h]? = some x) : (!(Op.bytesLess x.name_.toList s.toList)) = decide (m ≤ h) := by
  by_cases hmh : m ≤ h
  · rw [hp.2.2 h x hmh hx]; simp [hmh]
  · rw [hp.2.1 h x (by omega) hx]; simp [hmh]

set_option maxHeartbeats 4000000 in
set_option maxRecDepth 100000 in
theorem placeBd_any (A : Option Addr) (n c m : Nat) (xs : List Bd) (s : ByteArray) (f : Bool) (W : World) (hI : BdI W W.heap.size A n xs) (hn : n ≤ 1000) (hp : PlaceP Bd.name_ xs s m) (hf : (∃ x : Bd, xs[m]? = some x ∧ (x.name_.toList == s.toList) = f) ∨ (m = n ∧ f = false)) :
    Calls Tryd.prog 72 #[.slice A n c, .string s] W fun e w' => e = .returned (.tuple #[.int .i64 m, .bool f]) ∧ Below W.heap.size W w' := by
  have HI := Lib.hid hI
  have HP := Lib.hid hp
  have hl := hI.1
  have hmn : m ≤ n := by have := hp.1; omega
  have HC := Lib.hid (fun (X : World) (T T' : TypeId) (e : X = (W.alloc (.cells #[.slice A n c] T)).alloc (.cells #[.string s] T')) => two_cells W T T' #[.slice A n c] #[.string s] X e)
  have HCL : Hid (∀ (w1 : World), Below W.heap.size W w1 → w1.cell? ⟨W.heap.size, 0, none⟩ = some (.slice A n c) → w1.cell? ⟨W.heap.size + 1, 0, none⟩ = some (.string s) → W.heap.size + 2 ≤ w1.heap.size → ∀ (h : Nat) (w : World), h < n → Below w1.heap.size w1 w → Calls Tryd.prog 76 (#[.int .i64 h] ++ #[.pointer (some ⟨W.heap.size, 0, none⟩), .pointer (some ⟨W.heap.size + 1, 0, none⟩)]) w fun e w' => e = .returned (.bool (decide (m ≤ h))) ∧ Below w.heap.size w w') := by
    show ∀ _, _
    intro w1 hb1 k2 k3 hz h w hlt hb
    have hx : xs[h]? = some (xs[h]'(by omega)) := List.getElem?_eq_getElem (by omega)
    rw [← place_bool HP.out hx]
    exact placeC_any W.heap.size (W.heap.size + 1) A n c h xs s _ w ((hb.cell (p := ⟨W.heap.size, 0, none⟩) (by dsimp only; omega)).trans k2) ((hb.cell (p := ⟨W.heap.size + 1, 0, none⟩) (by dsimp only; omega)).trans k3) ((HI.out.go hb1).go hb) hlt hx
  clear hI hp
  go_enter Tryd.func72, Tryd.ntmps72
  go_wp2_with (go_at_call 75; obtain ⟨g0, g1, g2⟩ := HC.out _ _ _ rfl; refine (searchBd_any #[.pointer (some ⟨W.heap.size, 0, none⟩), .pointer (some ⟨W.heap.size + 1, 0, none⟩)] n m _ (by omega) hmn (HCL.out _ g2 (g0.cell 0) (g1.cell 0) (by simp))).mono ?_; rintro e w1 ⟨rfl, hb⟩; have HA1 := Lib.hid (g0.below hb g0.lt); have HD1 := Lib.hid (g1.below hb g1.lt); have HB1 := Lib.hid (g2.trans (hb.mono g2.size)); clear g0 g1 g2 hb)
  have r2 : w1.cell? ⟨W.heap.size, 0, none⟩ = some (.slice A n c) := HA1.out.cell 0
  have r3 : w1.cell? ⟨W.heap.size + 1, 0, none⟩ = some (.string s) := HD1.out.cell 0
  have y2 := cell_regrown r2
  have y3 := cell_regrown r3
  have c0 : (0 : Int) ≤ (m : Int) := by omega
  rcases hf with ⟨x, hx, hz⟩ | ⟨hmn2, rfl⟩
  · have hlt : m < n := by have := (List.getElem?_eq_some_iff.1 hx).1; omega
    have c1 : (m : Int) < (n : Int) := by omega
    have c2 : decide ((m : Int) < (n : Int)) = true := by simp; omega
    obtain ⟨b, off, y, rfl, hg, hy, ⟨q0, q1, q2, q3, q4⟩, _⟩ := (HI.out.go HB1.out).at_ hlt
    obtain rfl : x = y := Option.some.inj (hx.symm.trans hy)
    have hmx := method_keyBd (.string x.name_) (.int .i64 x.kind_) (.int .i64 x.num_) (.string x.text_) (.int .i64 x.ref_)
    have HKX := Lib.hid (fun w => keyBd_any x w)
    have x0 := cell_regrown q0
    have x1 := cell_regrown q1
    have x2 := cell_regrown q2
    have x3 := cell_regrown q3
    have x4 := cell_regrown q4
    have cX : ∀ d os', Calls Tryd.prog 94 #[.agg #[.string x.name_, .int .i64 x.kind_, .int .i64 x.num_, .string x.text_, .int .i64 x.ref_]] (grow (redrawn w1 d) os') (fun e w'' => e = .returned (.string x.name_) ∧ ∃ q : Regrown, w'' = grow (redrawn w1 q.d) q.os) := fun d os' => Calls.regrown_of (HKX.out _)
    clear r2 r3 q0 q1 q2 q3 q4 hx hy hg
    refine wp_region_quiet_below (by kernel_rfl) (by kernel_rfl) ?_
    repeat (first | go_big_quiet_step (with_reducible exact cX _ _) | quiet_step (with_reducible exact cX _ _))
    refine wpQuiet_nil ?_
    intro w4 hw'
    obtain ⟨⟨dq, osq⟩, hw''⟩ := hw'
    have HB4 : Hid (Below W.heap.size W w4) := by show Below _ _ _; rw [hw'']; exact HB1.out.trans ((below_regrown w1 dq osq).mono HB1.out.size)
    clear hw'' x0 x1 x2 x3 x4 y2 y3 cX
    go_wp2_with fail
    exact bodyPost_ret (v := .tuple #[.int .i64 m, .bool f]) (by rw [results_tmp2 rfl]; first | (go_simp; done) | (go_simp; rw [hz])) rfl ⟨rfl, HB4.out⟩
  · have c1 : ¬ (m : Int) < (n : Int) := by omega
    have c2 : decide ((m : Int) < (n : Int)) = false := by simp; omega
    clear r2 r3
    refine wp_region_quiet_below (by kernel_rfl) (by kernel_rfl) ?_
    repeat (first | go_big_quiet_step (fail) | quiet_step (fail))
    refine wpQuiet_nil ?_
    intro w4 hw'
    obtain ⟨⟨dq, osq⟩, hw''⟩ := hw'
    have HB4 : Hid (Below W.heap.size W w4) := by show Below _ _ _; rw [hw'']; exact HB1.out.trans ((below_regrown w1 dq osq).mono HB1.out.size)
    clear hw'' y2 y3
    go_wp2_with fail
    exact bodyPost_ret (v := .tuple #[.int .i64 m, .bool false]) (by rw [results_tmp2 rfl]; go_simp) rfl ⟨by rw [hmn2], HB4.out⟩
end Go.Proofs.YtnedihiagaepjaaDoor
