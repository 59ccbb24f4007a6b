/- Contract: convertBoth at strings. Condition: the tables hold what the program's text lays. -/
import Derived.Test.YtpjjpfjnjhahcaaGreatDoorTwoV
import Derived.Test.YtpjjpfjnjhahcaaGreatDoorToTxt
namespace Go.Proofs.YtpjjpfjnjhahcaaGreatDoor
open Go Go.RowKit

set_option maxHeartbeats 1000000 in
/-- Both made text. -/
theorem convS_any (a b : Va) (W : World) (ha : a.t.size ≤ maxLen) (hb : b.t.size ≤ maxLen) (hT : Tabs W) :
    Calls Tryz.prog 62 #[.func (.func 39) #[] #[], a.ag, b.ag] W fun e w' => e = .returned (.tuple #[.string (ttS a.k a.n a.t a.r), .string (ttS b.k b.n b.t b.r), .bool (ttB a.k a.n a.t a.r && ttB b.k b.n b.t b.r)]) ∧ Below W.heap.size W w' := by
  have HT := Lib.hid hT
  have HA := Lib.hid ha
  have HB := Lib.hid hb
  clear hT ha hb
  unfold Va.ag
  have HC := Lib.hid (two_newV W 25 a b)
  obtain ⟨ba, hba⟩ : ∃ ba, ttB a.k a.n a.t a.r = ba := ⟨_, rfl⟩
  have HBA := Lib.hid hba
  rw [hba]
  clear hba
  have T1 : True := trivial
  cases ba
  all_goals
    go_enter Tryz.func62, Tryz.ntmps62
    go_wp2_with (first
      | (go_at_call 39; have tk := T1; obtain ⟨x0, x1, x2, x3⟩ := HC.out _ rfl; have HQ := impl_ToText_any a.k a.n a.t a.r _ HA.out (HT.out.go x2); rw [HBA.out] at HQ; refine Calls.mono HQ ?_; clear HQ T1 tk; rintro e w1 ⟨rfl, hb⟩; have HB1 : Hid (Below W.heap.size W w1) := x2.trans (hb.mono x2.size); obtain ⟨y0, y1, y2, y3⟩ := x1.below hb (by omega); clear hb x0 x1 x2 x3)
      | (go_at_call 39; have HQ := impl_ToText_any b.k b.n b.t b.r _ HB.out (HT.out.go HB1.out); refine Calls.mono HQ ?_; clear HQ; rintro e w2 ⟨rfl, hb⟩; have HB2 : Hid (Below W.heap.size W w2) := HB1.out.trans (hb.mono HB1.out.size); clear hb))
    go_ret3
    exact ⟨rfl, HB2.out⟩
end Go.Proofs.YtpjjpfjnjhahcaaGreatDoor
