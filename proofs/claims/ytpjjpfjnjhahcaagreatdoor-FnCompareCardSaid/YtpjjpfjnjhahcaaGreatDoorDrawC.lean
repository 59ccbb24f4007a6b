/- Contract of the model's draw of a comparison: DrawCompared. Condition: the code's bytes. -/
import Derived.Test.YtpjjpfjnjhahcaaGreatDoorDrawM
import Derived.Test.YtpjjpfjnjhahcaaGreatDoorTwoV
namespace Go.Proofs.YtpjjpfjnjhahcaaGreatDoor
open Go Go.RowKit

theorem Code.up {w : World} {g g' n : Nat} {A : Option Addr} (h : Code w g A n) (hb : g ≤ g') : Code w g' A n := fun hn => by
  obtain ⟨b, off, e, hg, hc⟩ := h hn
  exact ⟨b, off, e, Nat.lt_of_lt_of_le hg hb, hc⟩
/-- The two results' blocks, the source. -/
def Dc (W : World) (g m : Nat) (w : World) : Prop :=
  RW 25 w W.heap.size #[.int .i64 0, .int .i64 0, .string ⟨#[]⟩, .int .i64 0] ∧ RW 25 w (W.heap.size + 1) #[.int .i64 0, .int .i64 0, .string ⟨#[]⟩, .int .i64 0] ∧ Src w g m ∧ Below W.heap.size W w ∧ W.heap.size + 1 < g
section
variable {W w w' : World} {g m m' : Nat}
theorem Dc.draw (h : Dc W g m w) (hg : w.grownBy w' (some g)) (hs : Src w' g m') : Dc W g m' w' := by
  obtain ⟨h1, h2, h3, h4, h6⟩ := h
  exact ⟨(hg.block _ h1.lt (fun e => by have := Option.some.inj e; omega)).trans h1, (hg.block _ h2.lt (fun e => by have := Option.some.inj e; omega)).trans h2, hs, h4.grown hg h4.size (fun k hk => by have := Option.some.inj hk; omega), h6⟩
theorem Dc.drew (h : Dc W g m w) : Dc W g m w.drew :=
  h.draw ⟨rfl, rfl, rfl, Nat.le_refl _, fun _ _ _ => rfl⟩ (h.2.2.1.grown (row := none) ⟨rfl, rfl, rfl, Nat.le_refl _, fun _ _ _ => rfl⟩ (fun _ e => by cases e))
theorem Dc.start (hb : Below ((W.alloc (.cells #[.int .i64 0, .int .i64 0, .string ⟨#[]⟩, .int .i64 0] 25)).alloc (.cells #[.int .i64 0, .int .i64 0, .string ⟨#[]⟩, .int .i64 0] 25)).heap.size ((W.alloc (.cells #[.int .i64 0, .int .i64 0, .string ⟨#[]⟩, .int .i64 0] 25)).alloc (.cells #[.int .i64 0, .int .i64 0, .string ⟨#[]⟩, .int .i64 0] 25)) w) (hs : Src w ((W.alloc (.cells #[.int .i64 0, .int .i64 0, .string ⟨#[]⟩, .int .i64 0] 25)).alloc (.cells #[.int .i64 0, .int .i64 0, .string ⟨#[]⟩, .int .i64 0] 25)).heap.size 0) (hg : ((W.alloc (.cells #[.int .i64 0, .int .i64 0, .string ⟨#[]⟩, .int .i64 0] 25)).alloc (.cells #[.int .i64 0, .int .i64 0, .string ⟨#[]⟩, .int .i64 0] 25)).heap.size = g) : Dc W g 0 w := by
  subst hg
  have hz : ((W.alloc (.cells #[.int .i64 0, .int .i64 0, .string ⟨#[]⟩, .int .i64 0] 25)).alloc (.cells #[.int .i64 0, .int .i64 0, .string ⟨#[]⟩, .int .i64 0] 25)).heap.size = W.heap.size + 2 := by simp
  have r0 : RW 25 ((W.alloc (.cells #[.int .i64 0, .int .i64 0, .string ⟨#[]⟩, .int .i64 0] 25)).alloc (.cells #[.int .i64 0, .int .i64 0, .string ⟨#[]⟩, .int .i64 0] 25)) W.heap.size #[.int .i64 0, .int .i64 0, .string ⟨#[]⟩, .int .i64 0] := (RW.new W _ _).alloc _
  have r1 : RW 25 ((W.alloc (.cells #[.int .i64 0, .int .i64 0, .string ⟨#[]⟩, .int .i64 0] 25)).alloc (.cells #[.int .i64 0, .int .i64 0, .string ⟨#[]⟩, .int .i64 0] 25)) (W.heap.size + 1) #[.int .i64 0, .int .i64 0, .string ⟨#[]⟩, .int .i64 0] := by
    have := RW.new (W.alloc (.cells #[.int .i64 0, .int .i64 0, .string ⟨#[]⟩, .int .i64 0] 25)) #[.int .i64 0, .int .i64 0, .string ⟨#[]⟩, .int .i64 0] 25
    rwa [show (W.alloc (.cells #[.int .i64 0, .int .i64 0, .string ⟨#[]⟩, .int .i64 0] 25)).heap.size = W.heap.size + 1 by simp] at this
  have hb0 : Below W.heap.size W ((W.alloc (.cells #[.int .i64 0, .int .i64 0, .string ⟨#[]⟩, .int .i64 0] 25)).alloc (.cells #[.int .i64 0, .int .i64 0, .string ⟨#[]⟩, .int .i64 0] 25)) := ((Below.refl _ W).alloc (Nat.le_refl _) _).alloc (by simp) _
  exact ⟨(hb.block _ (by omega)).trans r0, (hb.block _ (by omega)).trans r1, hs, hb0.trans (hb.mono (by omega)), by omega⟩
theorem rw_drew {T : TypeId} {b : Nat} {cs : Array Value} (h : RW T w b cs) : RW T w.drew b cs := h
theorem Dc.fin (h : Dc W g m w) (u0 u1 u2 u3 v0 v1 v2 v3 : Value) : RW 25 ((((((((w.setCell ⟨W.heap.size, 0, none⟩ u0).setCell ⟨W.heap.size, 1, none⟩ u1).setCell ⟨W.heap.size, 2, none⟩ u2).setCell ⟨W.heap.size, 3, none⟩ u3).setCell ⟨W.heap.size + 1, 0, none⟩ v0).setCell ⟨W.heap.size + 1, 1, none⟩ v1).setCell ⟨W.heap.size + 1, 2, none⟩ v2).setCell ⟨W.heap.size + 1, 3, none⟩ v3) W.heap.size #[u0, u1, u2, u3] ∧ RW 25 ((((((((w.setCell ⟨W.heap.size, 0, none⟩ u0).setCell ⟨W.heap.size, 1, none⟩ u1).setCell ⟨W.heap.size, 2, none⟩ u2).setCell ⟨W.heap.size, 3, none⟩ u3).setCell ⟨W.heap.size + 1, 0, none⟩ v0).setCell ⟨W.heap.size + 1, 1, none⟩ v1).setCell ⟨W.heap.size + 1, 2, none⟩ v2).setCell ⟨W.heap.size + 1, 3, none⟩ v3) (W.heap.size + 1) #[v0, v1, v2, v3] ∧ Below W.heap.size W ((((((((w.setCell ⟨W.heap.size, 0, none⟩ u0).setCell ⟨W.heap.size, 1, none⟩ u1).setCell ⟨W.heap.size, 2, none⟩ u2).setCell ⟨W.heap.size, 3, none⟩ u3).setCell ⟨W.heap.size + 1, 0, none⟩ v0).setCell ⟨W.heap.size + 1, 1, none⟩ v1).setCell ⟨W.heap.size + 1, 2, none⟩ v2).setCell ⟨W.heap.size + 1, 3, none⟩ v3) := by
  obtain ⟨h1, h2, h3, h4, h6⟩ := h
  refine ⟨(((((((h1.set_ 0 u0).set_ 1 u1).set_ 2 u2).set_ 3 u3).other (by simp) _).other (by simp) _).other (by simp) _).other (by simp) _, ((((((((h2.other (by simp) _).other (by simp) _).other (by simp) _).other (by simp) _).set_ 0 v0).set_ 1 v1).set_ 2 v2).set_ 3 v3), ?_⟩
  exact (((((((h4.setCell (by simp) _).setCell (by simp) _).setCell (by simp) _).setCell (by simp) _).setCell (by simp) _).setCell (by simp) _).setCell (by simp) _).setCell (by simp) _
/-- The first value lies in a block of its own, too. -/
def De (W : World) (g b m : Nat) (x : Array Value) (w : World) : Prop := Dc W g m w ∧ RW 25 w b x ∧ g < b
theorem De.start (h : Dc W g m w) (x : Array Value) : De W g w.heap.size m x (w.alloc (.cells x 25)) :=
  ⟨h.draw (World.grownBy_alloc w _ _) (h.2.2.1.alloc _), RW.new w x _, h.2.2.1.lt⟩
theorem De.draw {b : Nat} {x : Array Value} (h : De W g b m x w) (hg : w.grownBy w' (some g)) (hs : Src w' g m') : De W g b m' x w' :=
  ⟨h.1.draw hg hs, (hg.block _ h.2.1.lt (fun e => by have := Option.some.inj e; have := h.2.2; omega)).trans h.2.1, h.2.2⟩
theorem De.drew {b : Nat} {x : Array Value} (h : De W g b m x w) : De W g b m x w.drew := ⟨h.1.drew, h.2.1, h.2.2⟩
end
theorem results_tmp_cell_cell {fn : Func} {p q u : Tmp} {ty tz : TypeId} (h : fn.results = #[.tmp u, .cell p ty, .cell q tz]) (tmps : Array Value) (P : Program) (w : World) :
    (results fn tmps).run P w =
      ((asAddr (tmps.getD p undef)).run P w).andThen fun a w₁ => ((loadVar ty a).run P w₁).andThen fun v w₂ => ((asAddr (tmps.getD q undef)).run P w₂).andThen fun b w₃ => ((loadVar tz b).run P w₃).andThen fun y w₄ => .ok (.tuple #[tmps.getD u undef, v, y]) w₄ := by
  simp only [results, h]
  simp [Sem.run_bind, Result.andThen]
theorem results_two_rows {fn : Func} {p q u : Tmp} (h : fn.results = #[.tmp u, .cell p 25, .cell q 25]) (tmps : Array Value) (w : World) (a b : Nat) (cs ds : Array Value) (v : Value)
    (hv : tmps.getD u undef = v) (hp : tmps.getD p undef = .pointer (some ⟨a, 0, none⟩)) (hq : tmps.getD q undef = .pointer (some ⟨b, 0, none⟩)) (h1 : RW 25 w a cs) (h2 : RW 25 w b ds) (n1 : cs.size = 4) (n2 : ds.size = 4) :
    (results fn tmps).run Tryz.prog w = .ok (.tuple #[v, .agg cs, .agg ds]) w := by
  have i1 : (Tryz.prog.info? 25).map (·.size) = some cs.size := by rw [n1]; kernel_rfl
  have i2 : (Tryz.prog.info? 25).map (·.size) = some ds.size := by rw [n2]; kernel_rfl
  rw [results_tmp_cell_cell h, hv, hp, hq]
  simp [asAddr, Result.andThen, run_loadVar_row w a 25 25 cs (0, 0) _ h1 Tryz.underlying25 rfl i1, run_loadVar_row w b 25 25 ds (0, 0) _ h2 Tryz.underlying25 rfl i2]

set_option maxHeartbeats 2000000 in
set_option maxRecDepth 100000 in
theorem DrawCompared_any (A : Option Addr) (n c : Nat) (W : World) (hn : n ≤ 1048576) (hc : Code W W.heap.size A n) :
    Calls Tryz.prog 5 #[.slice A n c] W fun e w' => ∃ (op : Int) (a b : Va), e = .returned (.tuple #[.int .i64 op, a.ag, b.ag]) ∧ Hid (a.t.size ≤ 300 ∧ b.t.size ≤ 300 ∧ Below W.heap.size W w') := by
  have HN := Lib.hid hn
  have HC : Hid (Code ((W.alloc (.cells #[.int .i64 0, .int .i64 0, .string ⟨#[]⟩, .int .i64 0] 25)).alloc (.cells #[.int .i64 0, .int .i64 0, .string ⟨#[]⟩, .int .i64 0] 25)) ((W.alloc (.cells #[.int .i64 0, .int .i64 0, .string ⟨#[]⟩, .int .i64 0] 25)).alloc (.cells #[.int .i64 0, .int .i64 0, .string ⟨#[]⟩, .int .i64 0] 25)).heap.size A n) := by
    have hb0 : Below W.heap.size W ((W.alloc (.cells #[.int .i64 0, .int .i64 0, .string ⟨#[]⟩, .int .i64 0] 25)).alloc (.cells #[.int .i64 0, .int .i64 0, .string ⟨#[]⟩, .int .i64 0] 25)) := ((Below.refl _ W).alloc (Nat.le_refl _) _).alloc (by simp) _
    exact (hc.below hb0).up hb0.size
  obtain ⟨g, hg⟩ : ∃ g, ((W.alloc (.cells #[.int .i64 0, .int .i64 0, .string ⟨#[]⟩, .int .i64 0] 25)).alloc (.cells #[.int .i64 0, .int .i64 0, .string ⟨#[]⟩, .int .i64 0] 25)).heap.size = g := ⟨_, rfl⟩
  have HGW := Lib.hid hg
  clear hn hc hg
  go_enter Tryz.func5, Tryz.ntmps5
  have tk1 : True := trivial
  go_upto_if 14 with (first
    | (go_at_call 8; refine (l00From_any A n c _ HN.out HC.out).mono ?_; rintro e w ⟨rfl, hs, hb⟩; rw [HGW.out]; have HD : Hid (Dc W g 0 w) := Dc.start hb hs HGW.out; clear hs hb HC)
    | (go_at_call 9; refine (pick_any g 0 9 _ HD.out.2.2.1 (by decide) (by decide)).mono ?_; rintro e w1 ⟨x, q, rfl, hr, hk, hs, hb⟩; have hx0 := hr.1; have hx1 : x < 9 := (by have := hr.2; omega); have hwx : wrap64 (1 + x) = 1 + x := (by unfold wrap64; omega); have HD1 := Lib.hid (HD.out.draw hb hs); have HK1 : Hid (q ≤ 2) := (by show _ ≤ _; omega); clear hr hk hs hb HD)
    | (go_at_call 10; refine (one_any g q 20 _ HD1.out.2.2.1 (by have := HK1.out; omega) (by decide)).mono ?_; rintro e w2 ⟨b1, q2, rfl, h⟩; obtain ⟨hk, hs, hb⟩ := h.out; have HD2 := Lib.hid (HD1.out.draw hb hs); have HK2 : Hid (q2 ≤ 4) := (by have := HK1.out; show _ ≤ _; omega); clear h hk hs hb HD1 HK1))
  go_cut [6] from 15 to 18 (fun v wx => ∃ op q', v = .int .i64 op ∧ Hid (Dc W g q' wx ∧ q' ≤ 6))
  case first =>
    cases b1
    · go_wp2_with (fail)
      go_meet
      case rel => exact ⟨_, q2, rfl, Lib.hid ⟨HD2.out, by have := HK2.out; omega⟩⟩
    · go_wp2_with (go_at_call 11; refine (among_of g q2 3 _ _ [0, 10, -1] w2 HD2.out.2.2.1 (by have := HK2.out; omega) rfl rfl (by simp) (by simp)).mono ?_; rintro e w3 ⟨s, rfl, q3, h⟩; obtain ⟨hk, hs, hb⟩ := h.out; have HD3 := Lib.hid (HD2.out.draw hb hs); have HK3 : Hid (q3 ≤ 6) := (by have := HK2.out; show _ ≤ _; omega); clear h hk hs hb)
      go_meet
      case rel => exact ⟨_, q3, rfl, Lib.hid ⟨HD3.out, HK3.out⟩⟩
  case rest =>
    obtain ⟨op, q3, rfl, HX⟩ := hcut
    have HD3 := Lib.hid HX.out.1
    have HK3 := Lib.hid HX.out.2
    clear HX HD2 HK2 hwx hx0 hx1
    go_wp2_with (first
      | (go_at_call 12; refine (l10Value_any g q3 _ HD3.out.2.2.1 (by have := HK3.out; omega)).mono ?_; rintro e w4 ⟨ka, na, ta, ra, rfl, q4, h⟩; obtain ⟨ht, hk, hs, hb⟩ := h.out; have HD4 := Lib.hid (HD3.out.draw hb hs); have HK4 : Hid (q4 ≤ 68) := (by have := HK3.out; show _ ≤ _; omega); have HTA := Lib.hid ht; clear h ht hk hs hb HD3 HK3)
      | (go_at_call 10; have HE4 := Lib.hid (De.start HD4.out #[.int .i64 ka, .int .i64 na, .string ta, .int .i64 ra]); refine (one_any g q4 4 _ HE4.out.1.2.2.1 (by have := HK4.out; omega) (by decide)).mono ?_; rintro e w5 ⟨b2, q5, rfl, h⟩; obtain ⟨hk, hs, hb⟩ := h.out; have HE5 := Lib.hid (HE4.out.draw hb hs); have HK5 : Hid (q5 ≤ 70) := (by have := HK4.out; show _ ≤ _; omega); clear h hk hs hb HE4 HK4 HD4; cases b2))
    · obtain ⟨b, hb⟩ : ∃ b, w4.heap.size = b := ⟨_, rfl⟩
      rw [hb] at HE5 ⊢
      have hb1 : b ≠ W.heap.size := by have := HE5.out.2.2; have := HE5.out.1.2.2.2.2; omega
      have hb2 : b ≠ W.heap.size + 1 := by have := HE5.out.2.2; have := HE5.out.1.2.2.2.2; omega
      have hb3 : W.heap.size ≠ b := hb1.symm
      have hb4 : W.heap.size + 1 ≠ b := hb2.symm
      clear hb
      have HED := Lib.hid HE5.out.drew
      clear HE5
      have z0 : w5.drew.cell? ⟨b, 0, none⟩ = some (.int .i64 ka) := HED.out.2.1.cell 0; have zf0 : w5.drew.frozen? ⟨b, 0, none⟩ = false := HED.out.2.1.frozen 0; have z1 : w5.drew.cell? ⟨b, 1, none⟩ = some (.int .i64 na) := HED.out.2.1.cell 1; have zf1 : w5.drew.frozen? ⟨b, 1, none⟩ = false := HED.out.2.1.frozen 1; have z2 : w5.drew.cell? ⟨b, 2, none⟩ = some (.string ta) := HED.out.2.1.cell 2; have zf2 : w5.drew.frozen? ⟨b, 2, none⟩ = false := HED.out.2.1.frozen 2; have z3 : w5.drew.cell? ⟨b, 3, none⟩ = some (.int .i64 ra) := HED.out.2.1.cell 3; have zf3 : w5.drew.frozen? ⟨b, 3, none⟩ = false := HED.out.2.1.frozen 3; have y0 : w5.drew.cell? ⟨W.heap.size, 0, none⟩ = some (.int .i64 0) := HED.out.1.1.cell 0; have yf0 : w5.drew.frozen? ⟨W.heap.size, 0, none⟩ = false := HED.out.1.1.frozen 0; have y1 : w5.drew.cell? ⟨W.heap.size, 1, none⟩ = some (.int .i64 0) := HED.out.1.1.cell 1; have yf1 : w5.drew.frozen? ⟨W.heap.size, 1, none⟩ = false := HED.out.1.1.frozen 1; have y2 : w5.drew.cell? ⟨W.heap.size, 2, none⟩ = some (.string ⟨#[]⟩) := HED.out.1.1.cell 2; have yf2 : w5.drew.frozen? ⟨W.heap.size, 2, none⟩ = false := HED.out.1.1.frozen 2; have y3 : w5.drew.cell? ⟨W.heap.size, 3, none⟩ = some (.int .i64 0) := HED.out.1.1.cell 3; have yf3 : w5.drew.frozen? ⟨W.heap.size, 3, none⟩ = false := HED.out.1.1.frozen 3; have x0 : w5.drew.cell? ⟨W.heap.size + 1, 0, none⟩ = some (.int .i64 0) := HED.out.1.2.1.cell 0; have xf0 : w5.drew.frozen? ⟨W.heap.size + 1, 0, none⟩ = false := HED.out.1.2.1.frozen 0; have x1 : w5.drew.cell? ⟨W.heap.size + 1, 1, none⟩ = some (.int .i64 0) := HED.out.1.2.1.cell 1; have xf1 : w5.drew.frozen? ⟨W.heap.size + 1, 1, none⟩ = false := HED.out.1.2.1.frozen 1; have x2 : w5.drew.cell? ⟨W.heap.size + 1, 2, none⟩ = some (.string ⟨#[]⟩) := HED.out.1.2.1.cell 2; have xf2 : w5.drew.frozen? ⟨W.heap.size + 1, 2, none⟩ = false := HED.out.1.2.1.frozen 2; have x3 : w5.drew.cell? ⟨W.heap.size + 1, 3, none⟩ = some (.int .i64 0) := HED.out.1.2.1.cell 3; have xf3 : w5.drew.frozen? ⟨W.heap.size + 1, 3, none⟩ = false := HED.out.1.2.1.frozen 3
      go_region_with (go_at_call 12; refine (l10Value_any g q5 _ HED.out.1.2.2.1 (by have := HK5.out; omega)).mono ?_; rintro e w6 ⟨kb, nb, tb, rb, rfl, q6, h⟩; obtain ⟨ht, hk, hs, hb⟩ := h.out; have HE6 := Lib.hid (HED.out.draw hb hs); have HTB := Lib.hid ht; clear h ht hk hs hb; clear z0 zf0 y0 yf0 x0 xf0 z1 zf1 y1 yf1 x1 xf1 z2 zf2 y2 yf2 x2 xf2 z3 zf3 y3 yf3 x3 xf3; have z0 : w6.cell? ⟨b, 0, none⟩ = some (.int .i64 ka) := HE6.out.2.1.cell 0; have zf0 : w6.frozen? ⟨b, 0, none⟩ = false := HE6.out.2.1.frozen 0; have z1 : w6.cell? ⟨b, 1, none⟩ = some (.int .i64 na) := HE6.out.2.1.cell 1; have zf1 : w6.frozen? ⟨b, 1, none⟩ = false := HE6.out.2.1.frozen 1; have z2 : w6.cell? ⟨b, 2, none⟩ = some (.string ta) := HE6.out.2.1.cell 2; have zf2 : w6.frozen? ⟨b, 2, none⟩ = false := HE6.out.2.1.frozen 2; have z3 : w6.cell? ⟨b, 3, none⟩ = some (.int .i64 ra) := HE6.out.2.1.cell 3; have zf3 : w6.frozen? ⟨b, 3, none⟩ = false := HE6.out.2.1.frozen 3; have y0 : w6.cell? ⟨W.heap.size, 0, none⟩ = some (.int .i64 0) := HE6.out.1.1.cell 0; have yf0 : w6.frozen? ⟨W.heap.size, 0, none⟩ = false := HE6.out.1.1.frozen 0; have y1 : w6.cell? ⟨W.heap.size, 1, none⟩ = some (.int .i64 0) := HE6.out.1.1.cell 1; have yf1 : w6.frozen? ⟨W.heap.size, 1, none⟩ = false := HE6.out.1.1.frozen 1; have y2 : w6.cell? ⟨W.heap.size, 2, none⟩ = some (.string ⟨#[]⟩) := HE6.out.1.1.cell 2; have yf2 : w6.frozen? ⟨W.heap.size, 2, none⟩ = false := HE6.out.1.1.frozen 2; have y3 : w6.cell? ⟨W.heap.size, 3, none⟩ = some (.int .i64 0) := HE6.out.1.1.cell 3; have yf3 : w6.frozen? ⟨W.heap.size, 3, none⟩ = false := HE6.out.1.1.frozen 3; have x0 : w6.cell? ⟨W.heap.size + 1, 0, none⟩ = some (.int .i64 0) := HE6.out.1.2.1.cell 0; have xf0 : w6.frozen? ⟨W.heap.size + 1, 0, none⟩ = false := HE6.out.1.2.1.frozen 0; have x1 : w6.cell? ⟨W.heap.size + 1, 1, none⟩ = some (.int .i64 0) := HE6.out.1.2.1.cell 1; have xf1 : w6.frozen? ⟨W.heap.size + 1, 1, none⟩ = false := HE6.out.1.2.1.frozen 1; have x2 : w6.cell? ⟨W.heap.size + 1, 2, none⟩ = some (.string ⟨#[]⟩) := HE6.out.1.2.1.cell 2; have xf2 : w6.frozen? ⟨W.heap.size + 1, 2, none⟩ = false := HE6.out.1.2.1.frozen 2; have x3 : w6.cell? ⟨W.heap.size + 1, 3, none⟩ = some (.int .i64 0) := HE6.out.1.2.1.cell 3; have xf3 : w6.frozen? ⟨W.heap.size + 1, 3, none⟩ = false := HE6.out.1.2.1.frozen 3)
      all_goals (go_wp2_with (fail))
      all_goals
        have HFN := HE6.out.1.fin (.int .i64 ka) (.int .i64 na) (.string ta) (.int .i64 ra) (.int .i64 kb) (.int .i64 nb) (.string tb) (.int .i64 rb)
        refine bodyPost_ret (v := .tuple #[.int .i64 op, .agg #[.int .i64 ka, .int .i64 na, .string ta, .int .i64 ra], .agg #[.int .i64 kb, .int .i64 nb, .string tb, .int .i64 rb]]) (results_two_rows Tryz.results5 _ _ W.heap.size (W.heap.size + 1) _ _ _ rfl rfl rfl HFN.1 HFN.2.1 rfl rfl) rfl ?_
        exact ⟨op, ⟨ka, na, ta, ra⟩, ⟨kb, nb, tb, rb⟩, rfl, Lib.hid ⟨HTA.out, HTB.out, HFN.2.2⟩⟩
    · obtain ⟨b, hb⟩ : ∃ b, w4.heap.size = b := ⟨_, rfl⟩
      rw [hb] at HE5 ⊢
      have hb1 : b ≠ W.heap.size := by have := HE5.out.2.2; have := HE5.out.1.2.2.2.2; omega
      have hb2 : b ≠ W.heap.size + 1 := by have := HE5.out.2.2; have := HE5.out.1.2.2.2.2; omega
      have hb3 : W.heap.size ≠ b := hb1.symm
      have hb4 : W.heap.size + 1 ≠ b := hb2.symm
      clear hb
      have HED := Lib.hid HE5.out.drew
      have z0 : w5.cell? ⟨b, 0, none⟩ = some (.int .i64 ka) := HE5.out.2.1.cell 0; have zf0 : w5.frozen? ⟨b, 0, none⟩ = false := HE5.out.2.1.frozen 0; have z1 : w5.cell? ⟨b, 1, none⟩ = some (.int .i64 na) := HE5.out.2.1.cell 1; have zf1 : w5.frozen? ⟨b, 1, none⟩ = false := HE5.out.2.1.frozen 1; have z2 : w5.cell? ⟨b, 2, none⟩ = some (.string ta) := HE5.out.2.1.cell 2; have zf2 : w5.frozen? ⟨b, 2, none⟩ = false := HE5.out.2.1.frozen 2; have z3 : w5.cell? ⟨b, 3, none⟩ = some (.int .i64 ra) := HE5.out.2.1.cell 3; have zf3 : w5.frozen? ⟨b, 3, none⟩ = false := HE5.out.2.1.frozen 3; have y0 : w5.cell? ⟨W.heap.size, 0, none⟩ = some (.int .i64 0) := HE5.out.1.1.cell 0; have yf0 : w5.frozen? ⟨W.heap.size, 0, none⟩ = false := HE5.out.1.1.frozen 0; have y1 : w5.cell? ⟨W.heap.size, 1, none⟩ = some (.int .i64 0) := HE5.out.1.1.cell 1; have yf1 : w5.frozen? ⟨W.heap.size, 1, none⟩ = false := HE5.out.1.1.frozen 1; have y2 : w5.cell? ⟨W.heap.size, 2, none⟩ = some (.string ⟨#[]⟩) := HE5.out.1.1.cell 2; have yf2 : w5.frozen? ⟨W.heap.size, 2, none⟩ = false := HE5.out.1.1.frozen 2; have y3 : w5.cell? ⟨W.heap.size, 3, none⟩ = some (.int .i64 0) := HE5.out.1.1.cell 3; have yf3 : w5.frozen? ⟨W.heap.size, 3, none⟩ = false := HE5.out.1.1.frozen 3; have x0 : w5.cell? ⟨W.heap.size + 1, 0, none⟩ = some (.int .i64 0) := HE5.out.1.2.1.cell 0; have xf0 : w5.frozen? ⟨W.heap.size + 1, 0, none⟩ = false := HE5.out.1.2.1.frozen 0; have x1 : w5.cell? ⟨W.heap.size + 1, 1, none⟩ = some (.int .i64 0) := HE5.out.1.2.1.cell 1; have xf1 : w5.frozen? ⟨W.heap.size + 1, 1, none⟩ = false := HE5.out.1.2.1.frozen 1; have x2 : w5.cell? ⟨W.heap.size + 1, 2, none⟩ = some (.string ⟨#[]⟩) := HE5.out.1.2.1.cell 2; have xf2 : w5.frozen? ⟨W.heap.size + 1, 2, none⟩ = false := HE5.out.1.2.1.frozen 2; have x3 : w5.cell? ⟨W.heap.size + 1, 3, none⟩ = some (.int .i64 0) := HE5.out.1.2.1.cell 3; have xf3 : w5.frozen? ⟨W.heap.size + 1, 3, none⟩ = false := HE5.out.1.2.1.frozen 3
      go_region_with (fail)
      all_goals (go_wp2_with (fail))
      all_goals
        have HFN := HE5.out.1.fin (.int .i64 ka) (.int .i64 na) (.string ta) (.int .i64 ra) (.int .i64 ka) (.int .i64 na) (.string ta) (.int .i64 ra)
        refine bodyPost_ret (v := .tuple #[.int .i64 op, .agg #[.int .i64 ka, .int .i64 na, .string ta, .int .i64 ra], .agg #[.int .i64 ka, .int .i64 na, .string ta, .int .i64 ra]]) (results_two_rows Tryz.results5 _ _ W.heap.size (W.heap.size + 1) _ _ _ rfl rfl rfl (rw_drew HFN.1) (rw_drew HFN.2.1) rfl rfl) rfl ?_
        exact ⟨op, ⟨ka, na, ta, ra⟩, ⟨ka, na, ta, ra⟩, rfl, Lib.hid ⟨HTA.out, HTA.out, HFN.2.2.drew⟩⟩
end Go.Proofs.YtpjjpfjnjhahcaaGreatDoor
