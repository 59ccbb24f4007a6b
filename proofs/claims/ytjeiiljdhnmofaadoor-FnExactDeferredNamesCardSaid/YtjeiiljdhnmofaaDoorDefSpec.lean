/- Contract: DeferredNames of the model. No condition. -/
import Derived.Test.YtjeiiljdhnmofaaDoorDefStep
namespace Go.Proofs.YtjeiiljdhnmofaaDoor
open Go Go.RowKit Go.Sort

set_option maxHeartbeats 4000000 in
set_option maxRecDepth 100000 in
theorem spec_DeferredNames_any (d : Nat) (x : Pt) (A : Option Addr) (n c : Nat) (W : World) (hv : PtV W 0 W.heap.size d x A n) :
    Calls Tryd.prog 37 #[x.ag A n c] W (RetsO W (open Classical in if ValidP x then namesC [] (ptPre x) else [])) := by
  have HV := Lib.hid hv
  have HVP : Hid (∀ w, Below W.heap.size W w → Calls Tryd.prog 11 #[x.ag A n c] w fun e w' => e = .returned (.bool (tt (ValidP x))) ∧ Below w.heap.size w w') := fun w hb => spec_ValidPattern_any d x A n c w (hv.go hb)
  obtain ⟨xk, xm, xt, xks⟩ := x
  clear hv
  by_cases hp : ValidP (.node xk xm xt xks)
  · have HP := Lib.hid hp
    rw [if_pos hp]
    rw [tt_true hp] at HVP
    clear hp
    show Calls Tryd.prog 37 #[.agg #[.int .i64 xk, .int .i64 xm, .string xt, .slice A n c]] W _
    go_enter Tryd.func37, Tryd.ntmps37
    go_wp2_with ((go_at_call 11; refine Calls.mono (HVP.out _ (below_alloc _ _)) ?_; rintro e w1 ⟨rfl, hb⟩; have HB1 := Lib.hid ((below_alloc W _).trans (hb.mono (Nat.le_of_lt (lt_alloc W _)))); have hr := (RW.new W #[.int .i64 xk, .int .i64 xm, .string xt, .slice A n c] 29).below hb (lt_alloc W _); have r0 : w1.cell? ⟨W.heap.size, 0, none⟩ = some (.int .i64 xk) := hr.cell 0; have r1 : w1.cell? ⟨W.heap.size, 1, none⟩ = some (.int .i64 xm) := hr.cell 1; have r2 : w1.cell? ⟨W.heap.size, 2, none⟩ = some (.string xt) := hr.cell 2; have r3 : w1.cell? ⟨W.heap.size, 3, none⟩ = some (.slice A n c) := hr.cell 3; clear hb hr))
    go_at_call 66
    refine Calls.mono (l11Names_all d (.node xk xm xt xks) A n c _ [] W.heap.size _ HP.out.2 (by have := HP.out.1; simp; omega) HV.out.1 (HV.out.2.below (HB1.out.trans (Below.mono (below_alloc _ _) HB1.out.size))) (Nat.le_trans HB1.out.size (Nat.le_of_lt (lt_alloc w1 _))) (own_lit0 w1 _ (Below.refl _ _) HB1.out.size)) ?_
    rintro e w2 ⟨v2, rfl, ho2, hg2⟩
    have HO2 := Lib.hid ho2
    have HG2 := Lib.hid (hg2.below (l := []) (own_lit0 w1 _ (Below.refl _ _) HB1.out.size) (Nat.le_trans HB1.out.size (Nat.le_of_lt (lt_alloc w1 _))))
    clear ho2 hg2
    go_wp2_with fail
    go_ret
    exact retsO_own HO2.out (HB1.out.trans ((Below.mono (below_alloc _ _) HB1.out.size).trans HG2.out))
  · rw [if_neg hp]
    rw [tt_false hp] at HVP
    clear hp
    show Calls Tryd.prog 37 #[.agg #[.int .i64 xk, .int .i64 xm, .string xt, .slice A n c]] W _
    go_enter Tryd.func37, Tryd.ntmps37
    go_wp2_with (go_at_call 11; refine Calls.mono (HVP.out _ (below_alloc _ _)) ?_; rintro e w1 ⟨rfl, hb⟩; have HB1 := Lib.hid ((below_alloc W _).trans (hb.mono (Nat.le_of_lt (lt_alloc W _)))); clear hb)
    go_ret
    exact ⟨none, 0, rfl, fun h => absurd h (by simp), HB1.out⟩
end Go.Proofs.YtjeiiljdhnmofaaDoor
