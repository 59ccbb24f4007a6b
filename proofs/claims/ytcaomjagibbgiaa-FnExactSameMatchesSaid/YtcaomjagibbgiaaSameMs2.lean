/- Contract: SameMatches of the program. No condition. -/
import Derived.Test.YtcaomjagibbgiaaSameMs
namespace Go.Proofs.Ytcaomjagibbgiaa
open Go Go.RowKit

set_option maxRecDepth 100000 in
theorem impl_SameMatches_any (A A' : Option Addr) (n n' c c' : Nat) (xs ys : List Mt) (W : World) (ha : MtI W W.heap.size A n xs) (hb : MtI W W.heap.size A' n' ys) :
    Calls Try.prog 16 #[.slice A n c, .slice A' n' c'] W fun e w' => e = .returned (.bool (tt (xs = ys))) ∧ Below W.heap.size W w' := by
  have HQ := Lib.hid (equalFuncM_any A A' n n' c c' xs ys W ha hb)
  obtain ⟨z, hz⟩ : ∃ z, tt (xs = ys) = z := ⟨_, rfl⟩
  have HZ := Lib.hid hz
  rw [hz]
  clear hz ha hb
  go_enter Try.func16, Try.ntmps16
  go_wp2_with (go_at_call 32; refine Calls.mono HQ.out ?_; clear HQ; rintro e w1 ⟨rfl, hb⟩; rw [HZ.out]; have HB1 := Lib.hid hb; clear hb)
  go_ret
  exact ⟨rfl, HB1.out⟩
end Go.Proofs.Ytcaomjagibbgiaa
