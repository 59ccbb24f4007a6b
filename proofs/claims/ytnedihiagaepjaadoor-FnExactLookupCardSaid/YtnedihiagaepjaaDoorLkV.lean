/- Contracts: find, clone, valueOf of the program at bindings. No condition but that the names rise. -/
import Derived.Test.YtnedihiagaepjaaDoorLkP
import Derived.Test.YtnedihiagaepjaaDoorValText
import Derived.Laws.Tables
import Derived.Laws.Rows
namespace Go.Proofs.YtnedihiagaepjaaDoor
open Go Go.RowKit Go.Sort

theorem below_setRow (w : World) {B g : Nat} (h : B ≤ g) (cs : Array Value) : Below B w (w.setRow g cs) := ⟨rfl, rfl, rfl, by simp [World.setRow], fun k hk => setRow_other w g k _ (by omega)⟩
theorem RW.setRow {T : TypeId} {w : World} {g : Nat} {old : Array Value} (h : RW T w g old) (cs : Array Value) : RW T (w.setRow g cs) g cs := setRow_heap w g old cs _ (0, 0) h
theorem results_row_tmp {P : Program} {fn : Func} {p u : Tmp} {ty : TypeId} (h : fn.results = #[.cell p ty, .tmp u]) (tmps : Array Value) (w : World) (g : Nat) (t : TypeId) (cs : Array Value) (fr : Nat × Nat) (d : TypeDesc) (v : Value)
    (hp : tmps.getD p undef = .pointer (some ⟨g, 0, none⟩)) (hv : tmps.getD u undef = v) (hg : w.heap[g]? = some (.cells cs t fr))
    (hu : P.underlying ty = some d) (hd : (match d with | .struct _ | .array _ _ => true | _ => false) = true) (hi : (P.info? ty).map (·.size) = some cs.size) :
    (results fn tmps).run P w = .ok (.tuple #[.agg cs, v]) w := by
  rw [results_cell_tmp h, hp, hv]
  simp [asAddr, run_loadVar_row w g t ty cs fr d hg hu hd hi]

theorem method_cloneBd (v0 v1 v2 v3 v4 : Value) (w : World) : (method 247 63 (.agg #[v0, v1, v2, v3, v4]) "loop.example/g00873/impl.clone").run Tryd.prog w = .ok (92, .agg #[v0, v1, v2, v3, v4]) w := by kernel_rfl
set_option maxHeartbeats 1000000 in
theorem cloneBd_any (x : Bd) (W : World) : Calls Tryd.prog 92 #[x.ag] W fun e w' => e = .returned x.ag ∧ Below W.heap.size W w' := by
  obtain ⟨x0, x1, x2, x3, x4⟩ := x
  show Calls Tryd.prog 92 #[.agg #[.string x0, .int .i64 x1, .int .i64 x2, .string x3, .int .i64 x4]] W _
  go_enter Tryd.func92, Tryd.ntmps92
  go_wp2_with fail
  have h := two_cells W 63 63 #[.string x0, .int .i64 x1, .int .i64 x2, .string x3, .int .i64 x4] #[.string x0, .int .i64 x1, .int .i64 x2, .string x3, .int .i64 x4] _ rfl
  refine bodyPost_ret (v := .agg #[.string x0, .int .i64 x1, .int .i64 x2, .string x3, .int .i64 x4]) ?_ rfl ?_
  · exact results_cell_row Tryd.results92 _ _ (W.heap.size + 1) 63 #[.string x0, .int .i64 x1, .int .i64 x2, .string x3, .int .i64 x4] (0, 0) _ rfl h.2.1 Tryd.underlying63 rfl (by kernel_rfl)
  · exact ⟨rfl, h.2.2⟩

theorem nullValue_any (W : World) : Calls Tryd.prog 62 #[] W fun e w' => e = .returned (.agg #[.int .i64 1, .int .i64 0, .string ⟨#[]⟩, .int .i64 0]) ∧ Below W.heap.size W w' := by
  have HC := Lib.hid (one_newS W 29 #[.int .i64 0, .int .i64 0, .string ⟨#[]⟩, .int .i64 0])
  go_enter Tryd.func62, Tryd.ntmps62
  go_wp2_with (go_at_call 73; obtain ⟨g0, g1, g2⟩ := HC.out _ rfl; refine (textValue_any 1 ⟨#[]⟩ _).mono ?_; rintro e w1 ⟨rfl, hb⟩; have HR1 := Lib.hid (g0.below hb g0.lt); have HB1 := Lib.hid (g1.trans (hb.mono g1.size)); have z0 := HR1.out.cell 0; have z1 := HR1.out.cell 1; have z2 := HR1.out.cell 2; have z3 := HR1.out.cell 3; have f0 := HR1.out.frozen 0; have f1 := HR1.out.frozen 1; have f2 := HR1.out.frozen 2; have f3 := HR1.out.frozen 3; clear g0 g1 g2 hb)
  refine bodyPost_ret (v := .agg #[.int .i64 1, .int .i64 0, .string ⟨#[]⟩, .int .i64 0]) (results_cell_row Tryd.results62 _ _ W.heap.size 29 _ (0, 0) _ rfl ((((HR1.out.set_ 0 _).set_ 1 _).set_ 2 _).set_ 3 _) Tryd.underlying29 rfl (by kernel_rfl)) rfl ⟨rfl, ?_⟩
  exact ((((HB1.out.setCell (p := ⟨W.heap.size, 0, none⟩) (by simp) _).setCell (p := ⟨W.heap.size, 1, none⟩) (by simp) _).setCell (p := ⟨W.heap.size, 2, none⟩) (by simp) _).setCell (p := ⟨W.heap.size, 3, none⟩) (by simp) _)

set_option maxHeartbeats 4000000 in
set_option maxRecDepth 100000 in
theorem findBd_no (A : Option Addr) (n c m : Nat) (xs : List Bd) (s : ByteArray) (W : World) (hI : BdI W W.heap.size A n xs) (hn : n ≤ 1000) (hp : PlaceP Bd.name_ xs s m) (hf : (∃ x : Bd, xs[m]? = some x ∧ (x.name_.toList == s.toList) = false) ∨ m = n) :
    Calls Tryd.prog 61 #[.slice A n c, .string s] W fun e w' => e = .returned (.tuple #[.agg #[.string ⟨#[]⟩, .int .i64 0, .int .i64 0, .string ⟨#[]⟩, .int .i64 0], .bool false]) ∧ Below W.heap.size W w' := by
  have HC := Lib.hid (one_newS W 63 #[.string ⟨#[]⟩, .int .i64 0, .int .i64 0, .string ⟨#[]⟩, .int .i64 0])
  have HQ := Lib.hid (fun (w : World) (hb : Below W.heap.size W w) => placeBd_any A n c m xs s false w (hI.go hb) hn hp (hf.imp id fun h => ⟨h, rfl⟩))
  clear hI hp hf
  go_enter Tryd.func61, Tryd.ntmps61
  go_wp2_with (go_at_call 72; obtain ⟨g0, g1, g2⟩ := HC.out _ rfl; refine (HQ.out _ g1).mono ?_; rintro e w1 ⟨rfl, hb⟩; have HR1 := Lib.hid (g0.below hb g0.lt); have HB1 := Lib.hid (g1.trans (hb.mono g1.size)); have z0 : ∀ o, (w1.alloc o).cell? ⟨W.heap.size, 0, none⟩ = some (.string ⟨#[]⟩) := (fun o => (HR1.out.alloc o).cell 0); have f0 : ∀ o, (w1.alloc o).frozen? ⟨W.heap.size, 0, none⟩ = false := (fun o => (HR1.out.alloc o).frozen 0); have z1 : ∀ o, (w1.alloc o).cell? ⟨W.heap.size, 1, none⟩ = some (.int .i64 0) := (fun o => (HR1.out.alloc o).cell 1); have f1 : ∀ o, (w1.alloc o).frozen? ⟨W.heap.size, 1, none⟩ = false := (fun o => (HR1.out.alloc o).frozen 1); have z2 : ∀ o, (w1.alloc o).cell? ⟨W.heap.size, 2, none⟩ = some (.int .i64 0) := (fun o => (HR1.out.alloc o).cell 2); have f2 : ∀ o, (w1.alloc o).frozen? ⟨W.heap.size, 2, none⟩ = false := (fun o => (HR1.out.alloc o).frozen 2); have z3 : ∀ o, (w1.alloc o).cell? ⟨W.heap.size, 3, none⟩ = some (.string ⟨#[]⟩) := (fun o => (HR1.out.alloc o).cell 3); have f3 : ∀ o, (w1.alloc o).frozen? ⟨W.heap.size, 3, none⟩ = false := (fun o => (HR1.out.alloc o).frozen 3); have z4 : ∀ o, (w1.alloc o).cell? ⟨W.heap.size, 4, none⟩ = some (.int .i64 0) := (fun o => (HR1.out.alloc o).cell 4); have f4 : ∀ o, (w1.alloc o).frozen? ⟨W.heap.size, 4, none⟩ = false := (fun o => (HR1.out.alloc o).frozen 4); clear g0 g1 g2 hb)
  refine bodyPost_ret (v := .tuple #[.agg #[.string ⟨#[]⟩, .int .i64 0, .int .i64 0, .string ⟨#[]⟩, .int .i64 0], .bool false]) ?_ rfl ?_
  · exact results_row_tmp Tryd.results61 _ _ W.heap.size 63 #[.string ⟨#[]⟩, .int .i64 0, .int .i64 0, .string ⟨#[]⟩, .int .i64 0] (0, 0) _ _ rfl rfl (((((((HR1.out.alloc _).set_ 0 _).set_ 1 _).set_ 2 _).set_ 3 _).set_ 4 _)) Tryd.underlying63 rfl (by kernel_rfl)
  · exact ⟨rfl, (((((HB1.out.trans ((below_alloc w1 _).mono HB1.out.size)).setCell (p := ⟨W.heap.size, 0, none⟩) (Nat.le_refl _) _).setCell (p := ⟨W.heap.size, 1, none⟩) (Nat.le_refl _) _).setCell (p := ⟨W.heap.size, 2, none⟩) (Nat.le_refl _) _).setCell (p := ⟨W.heap.size, 3, none⟩) (Nat.le_refl _) _).setCell (p := ⟨W.heap.size, 4, none⟩) (Nat.le_refl _) _⟩

set_option maxHeartbeats 4000000 in
set_option maxRecDepth 100000 in
theorem findBd_yes (A : Option Addr) (n c m : Nat) (xs : List Bd) (s : ByteArray) (x : Bd) (W : World) (hI : BdI W W.heap.size A n xs) (hn : n ≤ 1000) (hp : PlaceP Bd.name_ xs s m) (hx : xs[m]? = some x) (hf : (x.name_.toList == s.toList) = true) :
    Calls Tryd.prog 61 #[.slice A n c, .string s] W fun e w' => e = .returned (.tuple #[x.ag, .bool true]) ∧ Below W.heap.size W w' := by
  have HC := Lib.hid (one_newS W 63 #[.string ⟨#[]⟩, .int .i64 0, .int .i64 0, .string ⟨#[]⟩, .int .i64 0])
  have HQ := Lib.hid (fun (w : World) (hb : Below W.heap.size W w) => placeBd_any A n c m xs s true w (hI.go hb) hn hp (.inl ⟨x, hx, hf⟩))
  have hlt : m < n := by have := (List.getElem?_eq_some_iff.1 hx).1; have := hI.1; omega
  have c0 : (0 : Int) ≤ (m : Int) := by omega
  have c1 : (m : Int) < (n : Int) := by omega
  obtain ⟨b, off, y, rfl, hg, hy, hq, _⟩ := hI.at_ hlt
  obtain rfl : x = y := Option.some.inj (hx.symm.trans hy)
  have HE := Lib.hid (fun (w : World) (hb : Below W.heap.size W w) => hq.below hb hg)
  obtain ⟨x0, x1, x2, x3, x4⟩ := x
  have hm := method_cloneBd (.string x0) (.int .i64 x1) (.int .i64 x2) (.string x3) (.int .i64 x4)
  have HCL := Lib.hid (fun w => cloneBd_any ⟨x0, x1, x2, x3, x4⟩ w)
  clear hI hp hf hx hy hq hg
  show Calls Tryd.prog 61 #[.slice (some ⟨b, off, none⟩) n c, .string s] W fun e w' => e = .returned (.tuple #[.agg #[.string x0, .int .i64 x1, .int .i64 x2, .string x3, .int .i64 x4], .bool true]) ∧ Below W.heap.size W w'
  go_enter Tryd.func61, Tryd.ntmps61
  go_wp2_with (first
    | (go_at_call 72; obtain ⟨g0, g1, g2⟩ := HC.out _ rfl; refine (HQ.out _ g1).mono ?_; rintro e w1 ⟨rfl, hb⟩; have HR1 := Lib.hid (g0.below hb g0.lt); have HB1 := Lib.hid (g1.trans (hb.mono g1.size)); obtain ⟨q0, q1, q2, q3, q4⟩ := HE.out _ HB1.out; clear g0 g1 g2 hb)
    | (go_at_call 92; refine (HCL.out _).mono ?_; rintro e w2 ⟨he, hb⟩; obtain rfl : e = .returned (.agg #[.string x0, .int .i64 x1, .int .i64 x2, .string x3, .int .i64 x4]) := he; have HR2 := Lib.hid (HR1.out.below hb HR1.out.lt); have HB2 := Lib.hid (HB1.out.trans (hb.mono HB1.out.size)); have z0 : w2.cell? ⟨W.heap.size, 0, none⟩ = some (.string ⟨#[]⟩) := HR2.out.cell 0; have f0 := HR2.out.frozen 0; have z1 : w2.cell? ⟨W.heap.size, 1, none⟩ = some (.int .i64 0) := HR2.out.cell 1; have f1 := HR2.out.frozen 1; have z2 : w2.cell? ⟨W.heap.size, 2, none⟩ = some (.int .i64 0) := HR2.out.cell 2; have f2 := HR2.out.frozen 2; have z3 : w2.cell? ⟨W.heap.size, 3, none⟩ = some (.string ⟨#[]⟩) := HR2.out.cell 3; have f3 := HR2.out.frozen 3; have z4 : w2.cell? ⟨W.heap.size, 4, none⟩ = some (.int .i64 0) := HR2.out.cell 4; have f4 := HR2.out.frozen 4; clear hb q0 q1 q2 q3 q4))
  refine bodyPost_ret (v := .tuple #[.agg #[.string x0, .int .i64 x1, .int .i64 x2, .string x3, .int .i64 x4], .bool true]) ?_ rfl ?_
  · exact results_row_tmp Tryd.results61 _ _ W.heap.size 63 #[.string x0, .int .i64 x1, .int .i64 x2, .string x3, .int .i64 x4] (0, 0) _ _ rfl rfl (((((HR2.out.set_ 0 _).set_ 1 _).set_ 2 _).set_ 3 _).set_ 4 _) Tryd.underlying63 rfl (by kernel_rfl)
  · exact ⟨rfl, ((((HB2.out.setCell (p := ⟨W.heap.size, 0, none⟩) (Nat.le_refl _) _).setCell (p := ⟨W.heap.size, 1, none⟩) (Nat.le_refl _) _).setCell (p := ⟨W.heap.size, 2, none⟩) (Nat.le_refl _) _).setCell (p := ⟨W.heap.size, 3, none⟩) (Nat.le_refl _) _).setCell (p := ⟨W.heap.size, 4, none⟩) (Nat.le_refl _) _⟩


set_option maxHeartbeats 4000000 in
set_option maxRecDepth 100000 in
theorem valueOf_any (A0 A1 A2 : Option Addr) (n0 c0 n1 c1 n2 c2 : Nat) (xs : List Bd) (s : ByteArray) (k n : Int) (t : ByteArray) (r : Int) (W : World) (hI : BdI W W.heap.size A0 n0 xs) (hup : ListOk bdOk Bd.name_ 40 xs) (hl : LookP xs s k n t r) :
    Calls Tryd.prog 32 #[.agg #[.slice A0 n0 c0, .slice A1 n1 c1, .slice A2 n2 c2], .string s] W fun e w' => e = .returned (.agg #[.int .i64 k, .int .i64 n, .string t, .int .i64 r]) ∧ Below W.heap.size W w' := by
  obtain ⟨m, hp⟩ := PlaceP.ex hup.2 s
  have hn : n0 ≤ 1000 := by have := hup.1; have := hI.1; omega
  have HC := Lib.hid (two_cells W 36 29 #[.slice A0 n0 c0, .slice A1 n1 c1, .slice A2 n2 c2] #[.int .i64 0, .int .i64 0, .string ⟨#[]⟩, .int .i64 0])
  have HI := Lib.hid hI
  have HP := Lib.hid hp
  have HL := Lib.hid hl
  have HU := Lib.hid hup
  by_cases hf : ∃ x : Bd, xs[m]? = some x ∧ x.name_ = s
  · obtain ⟨x, hx, hxs⟩ := hf
    have HE : Hid (k = x.kind_ ∧ n = x.num_ ∧ t = x.text_ ∧ r = x.ref_) := LookP.uniq HL.out (.inl ⟨m, x, hx, hxs, HP.out.hit hx hxs, rfl, rfl, rfl, rfl⟩)
    obtain ⟨rfl, rfl, rfl, rfl⟩ := HE.out
    have HQ := Lib.hid (fun (w : World) (hb : Below W.heap.size W w) => findBd_yes A0 n0 c0 m xs s x w (hI.go hb) hn hp hx (beq_bytes.2 hxs))
    clear hI hup hp hl hx hxs HE
    go_enter Tryd.func32, Tryd.ntmps32
    go_wp2_with (first
      | (go_at_call 53; obtain ⟨g0, g1, g2⟩ := HC.out _ rfl; refine (vars_any A0 A1 A2 n0 c0 n1 c1 n2 c2 _).mono ?_; rintro e w1 ⟨rfl, hb⟩; have HR1 := Lib.hid (g1.below hb g1.lt); have HB1 := Lib.hid (g2.trans (hb.mono g2.size)); clear g0 g1 g2 hb)
      | (go_at_call 61; refine (HQ.out _ HB1.out).mono ?_; rintro e w2 ⟨rfl, hb⟩; have HR2 := Lib.hid (HR1.out.below hb HR1.out.lt); have HB2 := Lib.hid (HB1.out.trans (hb.mono HB1.out.size)); have z0 : ∀ o, (w2.alloc o).cell? ⟨W.heap.size + 1, 0, none⟩ = some (.int .i64 0) := (fun o => (HR2.out.alloc o).cell 0); have f0 : ∀ o, (w2.alloc o).frozen? ⟨W.heap.size + 1, 0, none⟩ = false := (fun o => (HR2.out.alloc o).frozen 0); have z1 : ∀ o, (w2.alloc o).cell? ⟨W.heap.size + 1, 1, none⟩ = some (.int .i64 0) := (fun o => (HR2.out.alloc o).cell 1); have f1 : ∀ o, (w2.alloc o).frozen? ⟨W.heap.size + 1, 1, none⟩ = false := (fun o => (HR2.out.alloc o).frozen 1); have z2 : ∀ o, (w2.alloc o).cell? ⟨W.heap.size + 1, 2, none⟩ = some (.string ⟨#[]⟩) := (fun o => (HR2.out.alloc o).cell 2); have f2 : ∀ o, (w2.alloc o).frozen? ⟨W.heap.size + 1, 2, none⟩ = false := (fun o => (HR2.out.alloc o).frozen 2); have z3 : ∀ o, (w2.alloc o).cell? ⟨W.heap.size + 1, 3, none⟩ = some (.int .i64 0) := (fun o => (HR2.out.alloc o).cell 3); have f3 : ∀ o, (w2.alloc o).frozen? ⟨W.heap.size + 1, 3, none⟩ = false := (fun o => (HR2.out.alloc o).frozen 3); clear hb))
    refine bodyPost_ret (v := .agg #[.int .i64 x.kind_, .int .i64 x.num_, .string x.text_, .int .i64 x.ref_]) ?_ rfl ?_
    · exact results_cell_row Tryd.results32 _ _ (W.heap.size + 1) 29 _ (0, 0) _ rfl (((((HR2.out.alloc _).set_ 0 _).set_ 1 _).set_ 2 _).set_ 3 _) Tryd.underlying29 rfl (by kernel_rfl)
    · exact ⟨rfl, ((((HB2.out.trans ((below_alloc w2 _).mono HB2.out.size)).setCell (p := ⟨W.heap.size + 1, 0, none⟩) (by simp) _).setCell (p := ⟨W.heap.size + 1, 1, none⟩) (by simp) _).setCell (p := ⟨W.heap.size + 1, 2, none⟩) (by simp) _).setCell (p := ⟨W.heap.size + 1, 3, none⟩) (by simp) _⟩
  · have HE : Hid (k = 1 ∧ n = 0 ∧ t = ⟨#[]⟩ ∧ r = 0) := LookP.uniq HL.out (.inr ⟨HP.out.miss HU.out.2 (fun b hb e => hf ⟨b, hb, e⟩), rfl, rfl, rfl, rfl⟩)
    obtain ⟨rfl, rfl, rfl, rfl⟩ := HE.out
    have HQ := Lib.hid (fun (w : World) (hb : Below W.heap.size W w) => findBd_no A0 n0 c0 m xs s w (hI.go hb) hn hp (by
      by_cases hlt : m < xs.length
      · refine .inl ⟨xs[m], List.getElem?_eq_getElem hlt, ?_⟩
        cases hz : (xs[m].name_.toList == s.toList)
        · rfl
        · exact absurd ⟨_, List.getElem?_eq_getElem hlt, beq_bytes.1 hz⟩ hf
      · exact .inr (by have := hp.1; have := hI.1; omega)))
    clear hI hup hp hl hf HE
    go_enter Tryd.func32, Tryd.ntmps32
    go_wp2_with (first
      | (go_at_call 53; obtain ⟨g0, g1, g2⟩ := HC.out _ rfl; refine (vars_any A0 A1 A2 n0 c0 n1 c1 n2 c2 _).mono ?_; rintro e w1 ⟨rfl, hb⟩; have HR1 := Lib.hid (g1.below hb g1.lt); have HB1 := Lib.hid (g2.trans (hb.mono g2.size)); clear g0 g1 g2 hb)
      | (go_at_call 61; refine (HQ.out _ HB1.out).mono ?_; rintro e w2 ⟨rfl, hb⟩; have HR2 := Lib.hid ((HR1.out.below hb HR1.out.lt)); have HB2 := Lib.hid (HB1.out.trans (hb.mono HB1.out.size)); clear hb)
      | (go_at_call 62; refine (nullValue_any _).mono ?_; rintro e w3 ⟨rfl, hb⟩; have HR3 := Lib.hid ((HR2.out.alloc _).below hb (HR2.out.alloc _).lt); have HB3 := Lib.hid ((HB2.out.trans ((below_alloc w2 _).mono HB2.out.size)).trans (hb.mono (Nat.le_trans HB2.out.size (by simp)))); have z0 : w3.cell? ⟨W.heap.size + 1, 0, none⟩ = some (.int .i64 0) := HR3.out.cell 0; have f0 := HR3.out.frozen 0; have z1 : w3.cell? ⟨W.heap.size + 1, 1, none⟩ = some (.int .i64 0) := HR3.out.cell 1; have f1 := HR3.out.frozen 1; have z2 : w3.cell? ⟨W.heap.size + 1, 2, none⟩ = some (.string ⟨#[]⟩) := HR3.out.cell 2; have f2 := HR3.out.frozen 2; have z3 : w3.cell? ⟨W.heap.size + 1, 3, none⟩ = some (.int .i64 0) := HR3.out.cell 3; have f3 := HR3.out.frozen 3; clear hb))
    refine bodyPost_ret (v := .agg #[.int .i64 1, .int .i64 0, .string ⟨#[]⟩, .int .i64 0]) ?_ rfl ?_
    · exact results_cell_row Tryd.results32 _ _ (W.heap.size + 1) 29 _ (0, 0) _ rfl ((((HR3.out.set_ 0 _).set_ 1 _).set_ 2 _).set_ 3 _) Tryd.underlying29 rfl (by kernel_rfl)
    · exact ⟨rfl, (((HB3.out.setCell (p := ⟨W.heap.size + 1, 0, none⟩) (by simp) _).setCell (p := ⟨W.heap.size + 1, 1, none⟩) (by simp) _).setCell (p := ⟨W.heap.size + 1, 2, none⟩) (by simp) _).setCell (p := ⟨W.heap.size + 1, 3, none⟩) (by simp) _⟩
end Go.Proofs.YtnedihiagaepjaaDoor
