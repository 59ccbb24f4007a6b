/- Contract: eqHeap of the laws where both are the same. No condition. -/
import Derived.Test.YtbdmanadmckjjaaDoorObsEq
namespace Go.Proofs.YtbdmanadmckjjaaDoor
open Go Go.RowKit Go.Sort

set_option maxRecDepth 100000 in
theorem eqHeap_same (nx : Int) (A A' : Option Addr) (n c c' : Nat) (os : List Ob) (W : World) (ha : OI W W.heap.size A n os) (hb : OI W W.heap.size A' n os) :
    Calls Tryd.prog 14 #[.agg #[.int .i64 nx, .slice A n c], .agg #[.int .i64 nx, .slice A' n c']] W fun e w' => e = .returned (.bool true) ∧ Below W.heap.size W w' := by
  have HA := Lib.hid ha
  have HB := Lib.hid hb
  have HC := Lib.hid (two_new W 29 #[.int .i64 nx, .slice A n c] #[.int .i64 nx, .slice A' n c'])
  clear ha hb
  go_enter Tryd.func14, Tryd.ntmps14
  go_wp2_with (go_at_call 43; obtain ⟨g0, g1, g2, g3⟩ := HC.out _ rfl; have HQ := eqObjectS_same A A' n c c' os _ (HA.out.go g2) (HB.out.go g2); refine Calls.mono HQ ?_; clear HQ; rintro e w1 ⟨rfl, hb⟩; have HB1 := Lib.hid (g2.trans (hb.mono g2.size)); clear g0 g1 g2 g3 hb HA)
  all_goals go_ret
  all_goals exact ⟨rfl, HB1.out⟩

end Go.Proofs.YtbdmanadmckjjaaDoor
