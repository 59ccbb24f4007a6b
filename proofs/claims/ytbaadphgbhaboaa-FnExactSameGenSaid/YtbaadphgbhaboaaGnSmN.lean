/- Contract: isSame of the program's pairs of generators' nodes. No condition. -/
import Derived.Test.YtbaadphgbhaboaaGnWl
namespace Go.Proofs.Ytbaadphgbhaboaa
open Go Go.RowKit

theorem hdG_bool (x y : Gn) (n n' : Nat) (hn : x.kids.length = n) (hn' : y.kids.length = n') : tt (x.hd y) = ((x.k == y.k) && ((x.n == y.n) && ((x.t.toList == y.t.toList) && ((x.vk == y.vk) && ((x.vn == y.vn) && ((x.vt.toList == y.vt.toList) && ((x.vr == y.vr) && ((n : Int) == (n' : Int))))))))) := by
  rw [Bool.eq_iff_iff]
  simp only [Bool.and_eq_true, tt_iff, beq_iff_eq, Gn.hd, hn, hn']
  constructor
  · rintro ⟨h0, h1, h2, h3, h4, h5, h6, h7⟩
    exact ⟨h0, h1, by rw [h2], h3, h4, by rw [h5], h6, by omega⟩
  · rintro ⟨h0, h1, h2, h3, h4, h5, h6, h7⟩
    exact ⟨h0, h1, WideShapes.bytes_inj (by rw [← ByteArray.toList_eq, ← ByteArray.toList_eq]; exact h2), h3, h4, WideShapes.bytes_inj (by rw [← ByteArray.toList_eq, ← ByteArray.toList_eq]; exact h5), h6, by omega⟩

set_option maxHeartbeats 2000000 in
set_option maxRecDepth 100000 in
theorem isSame_any (b p b' p' : Nat) (x y : Gn) (A A' : Option Addr) (n n' c c' : Nat) (W : World) (hx : GnAt W b p x A n c) (hy : GnAt W b' p' y A' n' c') (hb : b < W.heap.size) (hb' : b' < W.heap.size) (hn : x.kids.length = n) (hn' : y.kids.length = n') :
    Calls Try.prog 58 #[.agg #[.pointer (some ⟨b, p, none⟩), .pointer (some ⟨b', p', none⟩)]] W fun e w' => e = .returned (.bool (tt (x.hd y))) ∧ Below W.heap.size W w' := by
  rw [hdG_bool x y n n' hn hn']
  obtain ⟨x0, x1, x2, x3, x4, x5, x6, ks⟩ := x
  obtain ⟨y0, y1, y2, y3, y4, y5, y6, ks'⟩ := y
  dsimp only [Gn.k, Gn.n, Gn.t, Gn.vk, Gn.vn, Gn.vt, Gn.vr]
  have p0 : ∀ o, (W.alloc o).cell? ⟨b, p, none⟩ = some (.int .i64 x0) := fun o => (hx.below (below_alloc W o) hb).1
  have q0 : ∀ o, (W.alloc o).cell? ⟨b', p', none⟩ = some (.int .i64 y0) := fun o => (hy.below (below_alloc W o) hb').1
  have p1 : ∀ o, (W.alloc o).cell? ⟨b, p + 1, none⟩ = some (.int .i64 x1) := fun o => (hx.below (below_alloc W o) hb).2.1
  have q1 : ∀ o, (W.alloc o).cell? ⟨b', p' + 1, none⟩ = some (.int .i64 y1) := fun o => (hy.below (below_alloc W o) hb').2.1
  have p2 : ∀ o, (W.alloc o).cell? ⟨b, p + 2, none⟩ = some (.string x2) := fun o => (hx.below (below_alloc W o) hb).2.2.1
  have q2 : ∀ o, (W.alloc o).cell? ⟨b', p' + 2, none⟩ = some (.string y2) := fun o => (hy.below (below_alloc W o) hb').2.2.1
  have p3 : ∀ o, (W.alloc o).cell? ⟨b, p + 3, none⟩ = some (.int .i64 x3) := fun o => (hx.below (below_alloc W o) hb).2.2.2.1
  have q3 : ∀ o, (W.alloc o).cell? ⟨b', p' + 3, none⟩ = some (.int .i64 y3) := fun o => (hy.below (below_alloc W o) hb').2.2.2.1
  have p4 : ∀ o, (W.alloc o).cell? ⟨b, p + 4, none⟩ = some (.int .i64 x4) := fun o => (hx.below (below_alloc W o) hb).2.2.2.2.1
  have q4 : ∀ o, (W.alloc o).cell? ⟨b', p' + 4, none⟩ = some (.int .i64 y4) := fun o => (hy.below (below_alloc W o) hb').2.2.2.2.1
  have p5 : ∀ o, (W.alloc o).cell? ⟨b, p + 5, none⟩ = some (.string x5) := fun o => (hx.below (below_alloc W o) hb).2.2.2.2.2.1
  have q5 : ∀ o, (W.alloc o).cell? ⟨b', p' + 5, none⟩ = some (.string y5) := fun o => (hy.below (below_alloc W o) hb').2.2.2.2.2.1
  have p6 : ∀ o, (W.alloc o).cell? ⟨b, p + 6, none⟩ = some (.int .i64 x6) := fun o => (hx.below (below_alloc W o) hb).2.2.2.2.2.2.1
  have q6 : ∀ o, (W.alloc o).cell? ⟨b', p' + 6, none⟩ = some (.int .i64 y6) := fun o => (hy.below (below_alloc W o) hb').2.2.2.2.2.2.1
  have p7 : ∀ o, (W.alloc o).cell? ⟨b, p + 7, none⟩ = some (.slice A n c) := fun o => (hx.below (below_alloc W o) hb).2.2.2.2.2.2.2
  have q7 : ∀ o, (W.alloc o).cell? ⟨b', p' + 7, none⟩ = some (.slice A' n' c') := fun o => (hy.below (below_alloc W o) hb').2.2.2.2.2.2.2
  clear hn hn' hx hy hb hb'
  obtain ⟨z0, hz0⟩ : ∃ z, (x0 == y0) = z := ⟨_, rfl⟩
  obtain ⟨z1, hz1⟩ : ∃ z, (x1 == y1) = z := ⟨_, rfl⟩
  obtain ⟨z2, hz2⟩ : ∃ z, (x2.toList == y2.toList) = z := ⟨_, rfl⟩
  obtain ⟨z3, hz3⟩ : ∃ z, (x3 == y3) = z := ⟨_, rfl⟩
  obtain ⟨z4, hz4⟩ : ∃ z, (x4 == y4) = z := ⟨_, rfl⟩
  obtain ⟨z5, hz5⟩ : ∃ z, (x5.toList == y5.toList) = z := ⟨_, rfl⟩
  obtain ⟨z6, hz6⟩ : ∃ z, (x6 == y6) = z := ⟨_, rfl⟩
  obtain ⟨z7, hz7⟩ : ∃ z, ((n : Int) == (n' : Int)) = z := ⟨_, rfl⟩
  rw [hz0, hz1, hz2, hz3, hz4, hz5, hz6, hz7]
  cases z0
  · skip
    go_enter Try.func58, Try.ntmps58
    go_wp2_with fail
    simp only [List.append_eq, List.cons_append, List.nil_append]
    go_quiet (fail)
    go_wp2_with fail
    go_ret
    exact ⟨rfl, below_drewN (below_alloc _ _) _⟩
  cases z1
  · skip
    go_enter Try.func58, Try.ntmps58
    go_wp2_with fail
    simp only [List.append_eq, List.cons_append, List.nil_append]
    go_quiet (fail)
    go_wp2_with fail
    go_ret
    exact ⟨rfl, below_drewN (below_alloc _ _) _⟩
  cases z2
  · skip
    go_enter Try.func58, Try.ntmps58
    go_wp2_with fail
    simp only [List.append_eq, List.cons_append, List.nil_append]
    go_quiet (fail)
    go_wp2_with fail
    go_ret
    exact ⟨rfl, below_drewN (below_alloc _ _) _⟩
  cases z3
  · skip
    go_enter Try.func58, Try.ntmps58
    go_wp2_with fail
    simp only [List.append_eq, List.cons_append, List.nil_append]
    go_quiet (fail)
    go_wp2_with fail
    go_ret
    exact ⟨rfl, below_drewN (below_alloc _ _) _⟩
  cases z4
  · skip
    go_enter Try.func58, Try.ntmps58
    go_wp2_with fail
    simp only [List.append_eq, List.cons_append, List.nil_append]
    go_quiet (fail)
    go_wp2_with fail
    go_ret
    exact ⟨rfl, below_drewN (below_alloc _ _) _⟩
  cases z5
  · skip
    go_enter Try.func58, Try.ntmps58
    go_wp2_with fail
    simp only [List.append_eq, List.cons_append, List.nil_append]
    go_quiet (fail)
    go_wp2_with fail
    go_ret
    exact ⟨rfl, below_drewN (below_alloc _ _) _⟩
  cases z6
  · skip
    go_enter Try.func58, Try.ntmps58
    go_wp2_with fail
    simp only [List.append_eq, List.cons_append, List.nil_append]
    go_quiet (fail)
    go_wp2_with fail
    go_ret
    exact ⟨rfl, below_drewN (below_alloc _ _) _⟩
  cases z7
  all_goals
    go_enter Try.func58, Try.ntmps58
    go_wp2_with fail
    simp only [List.append_eq, List.cons_append, List.nil_append]
    go_quiet (fail)
    go_wp2_with fail
    all_goals go_ret
    all_goals exact ⟨rfl, below_drewN (below_alloc _ _) _⟩
end Go.Proofs.Ytbaadphgbhaboaa
