/- Contract: sameFields of the program. No condition. -/
import Derived.Test.YtbaadphgbhaboaaPtWl
namespace Go.Proofs.Ytbaadphgbhaboaa
open Go Go.RowKit

theorem hdP_bool (x y : Pt) (n n' : Nat) (hn : x.kids.length = n) (hn' : y.kids.length = n') : tt (x.hd y) = ((x.k == y.k) && ((x.n == y.n) && ((x.t.toList == y.t.toList) && ((n : Int) == (n' : Int))))) := by
  rw [Bool.eq_iff_iff]
  simp only [Bool.and_eq_true, tt_iff, beq_iff_eq, Pt.hd, hn, hn']
  constructor
  · rintro ⟨h0, h1, h2, h3⟩
    exact ⟨h0, h1, by rw [h2], by omega⟩
  · rintro ⟨h0, h1, h2, h3⟩
    exact ⟨h0, h1, WideShapes.bytes_inj (by rw [← ByteArray.toList_eq, ← ByteArray.toList_eq]; exact h2), by omega⟩

set_option maxHeartbeats 1000000 in
set_option maxRecDepth 100000 in
theorem sameFields_any (x y : Pt) (A A' : Option Addr) (n n' c c' : Nat) (W : World) (hn : x.kids.length = n) (hn' : y.kids.length = n') :
    Calls Try.prog 38 #[x.ag A n c, y.ag A' n' c'] W fun e w' => e = .returned (.bool (tt (x.hd y))) ∧ Below W.heap.size W w' := by
  rw [hdP_bool x y n n' hn hn']
  obtain ⟨k, m, t, ks⟩ := x
  obtain ⟨k', m', t', ks'⟩ := y
  clear hn hn'
  dsimp only [Pt.k, Pt.n, Pt.t]
  obtain ⟨z0, hz0⟩ : ∃ z, (k == k') = z := ⟨_, rfl⟩
  obtain ⟨z1, hz1⟩ : ∃ z, (m == m') = z := ⟨_, rfl⟩
  obtain ⟨z2, hz2⟩ : ∃ z, (t.toList == t'.toList) = z := ⟨_, rfl⟩
  obtain ⟨z3, hz3⟩ : ∃ z, ((n : Int) == (n' : Int)) = z := ⟨_, rfl⟩
  rw [hz0, hz1, hz2, hz3]
  show Calls Try.prog 38 #[.agg #[.int .i64 k, .int .i64 m, .string t, .slice A n c], .agg #[.int .i64 k', .int .i64 m', .string t', .slice A' n' c']] W _
  cases z0
  · go_enter Try.func38, Try.ntmps38
    go_wp2_with fail
    go_ret
    exact ⟨rfl, (below_alloc _ _).alloc (by simp) _⟩
  cases z1
  · go_enter Try.func38, Try.ntmps38
    go_wp2_with fail
    go_ret
    exact ⟨rfl, (below_alloc _ _).alloc (by simp) _⟩
  cases z2
  · go_enter Try.func38, Try.ntmps38
    go_wp2_with fail
    go_ret
    exact ⟨rfl, (below_alloc _ _).alloc (by simp) _⟩
  cases z3
  all_goals
    go_enter Try.func38, Try.ntmps38
    go_wp2_with fail
    all_goals go_ret
    all_goals exact ⟨rfl, (below_alloc _ _).alloc (by simp) _⟩
end Go.Proofs.Ytbaadphgbhaboaa
