/- Contracts: slices.Backward at patterns, and its closure: the elements from the last to the first come to the body of a loop. No condition. -/
import Derived.Test.YtjeiiljdhnmofaaDoorChain
import Derived.Test.YtjeiiljdhnmofaaDoorPtIterG
import Derived.Test.YtjeiiljdhnmofaaDoorPtValP
namespace Go.Proofs.YtjeiiljdhnmofaaDoor
open Go Go.RowKit Go.Shelf
attribute [local go_sem] Oper.semAt_some

/-- An element as a round is handed it; its Kids lie in world W₀. -/
structure Bk (W₀ : World) (d : Nat) where
  i : Nat
  x : Pt
  A : Option Addr
  n : Nat
  c : Nat
  hnc : n ≤ c
  ht : x.t.size ≤ maxLen
  hd : PtD W₀ 0 W₀.heap.size d A n x.kids
/-- The elements from the last on. -/
def BackOf {W₀ : World} {d : Nat} (n : Nat) (xs : List Pt) (ys : List (Bk W₀ d)) : Prop := ys.length ≤ n ∧ ∀ (q : Nat) (y : Bk W₀ d), ys[q]? = some y → y.i = n - 1 - q ∧ xs[n - 1 - q]? = some y.x
theorem BackOf.snoc {W₀ : World} {d n : Nat} {xs : List Pt} {ys : List (Bk W₀ d)} (h : BackOf n xs ys) (y : Bk W₀ d) (hl : ys.length < n) (hi : y.i = n - 1 - ys.length) (hx : xs[n - 1 - ys.length]? = some y.x) : BackOf n xs (ys ++ [y]) := by
  refine ⟨by simp; omega, fun q z hz => ?_⟩
  rcases Nat.lt_trichotomy q ys.length with hq | hq | hq
  · rw [List.getElem?_append_left hq] at hz
    exact h.2 q z hz
  · subst hq
    rw [List.getElem?_append_right (Nat.le_refl _), Nat.sub_self] at hz
    simp only [List.getElem?_cons_zero, Option.some.injEq] at hz
    subst hz
    exact ⟨hi, hx⟩
  · rw [List.getElem?_eq_none (by simp; omega)] at hz
    cases hz

theorem backward_any (n' : Nat) (A : Option Addr) (n c : Nat) (w : World) :
    CallsIn Fence.wide n' Tryd.prog 80 #[.slice A n c] w fun e w' => e = .returned (.func (.func 89) #[] #[.pointer (some ⟨w.heap.size, 0, none⟩)]) ∧ w' = w.alloc (.cells #[.slice A n c] 27) := by
  refine callsIn_of_wp Tryd.func80 rfl trivial ?_ rfl
  simp only [Tryd.ntmps80, List.size_toArray, List.length_cons, List.length_nil, Nat.reduceAdd, Nat.reduceSub, Array.replicate_succ, Array.replicate_zero, List.push_toArray, List.append_toArray, List.nil_append, List.cons_append]
  gi_wp2
  go_ret
  exact ⟨rfl, rfl⟩

set_option maxHeartbeats 4000000 in
set_option maxRecDepth 100000 in
theorem back_stops (n' d a b Bt : Nat) (A : Option Addr) (n c : Nat) (xs : List Pt) (W₀ w : World) (hd : PtD W₀ 0 W₀.heap.size (d + 1) A n xs) (hw : Below W₀.heap.size W₀ w) (ha : W₀.heap.size ≤ a) (hBt : RW 27 w Bt #[.slice A n c]) (hBa : Bt < a ∨ b ≤ Bt) :
    SeqStopsK Fence.wide n' Tryd.prog 89 #[.pointer (some ⟨Bt, 0, none⟩)] (fun y : Bk W₀ d => #[.int .i64 (y.i : Int), y.x.ag y.A y.n y.c]) (KeepC a b) (fun ys => BackOf n xs ys ∧ ys.length = n) (BackOf n xs) n w := by
  intro l J Jx W hW hJ hJx hY h0
  have hdd : ∀ q : Nat, (Fence.wide.depth.isSome = true → 1 ≤ q) := fun q h => by cases h
  have hR : RW 27 W Bt #[.slice A n c] := hBt.below hW hBt.lt
  have HB0 : Hid (Below W₀.heap.size W₀ W) := hw.trans (hW.mono hw.size)
  have HY := Lib.hid (fun m pre y W1 hj hl => yieldAny m (hY pre y W1 hj hl))
  have HD := Lib.hid hd
  have HR := Lib.hid hR
  have HL := Lib.hid hd.1
  have hnm := hd.2.1
  unfold maxLen at hnm
  have r0 : W.cell? ⟨Bt, 0, none⟩ = some (.slice A n c) := hR.cell 0
  clear hY hJ hJx hd hBt hR hW hw
  show CallsIn Fence.wide n' Tryd.prog 89 #[.func (.yield l) #[] #[], .pointer (some ⟨Bt, 0, none⟩)] W _
  refine callsIn_of_wp Tryd.func89 rfl trivial ?_ rfl
  simp only [Tryd.ntmps89, List.size_toArray, List.length_cons, List.length_nil, Nat.reduceAdd, Nat.reduceSub, Array.replicate_succ, Array.replicate_zero, List.push_toArray, List.append_toArray, List.nil_append, List.cons_append]
  gi_wp2
  gi_loopw [3] (fun i wr => ∃ (z : Int) (ys : List (Bk W₀ d)), i = .int .i64 z ∧ z = (n : Int) - 1 - ys.length ∧ Hid (BackOf n xs ys) ∧ Hid (J ys wr) ∧ Hid (KeepC a b W wr)) (fun i _ => (intOf i + 1).toNat)
  case atStart => exact ⟨_, [], rfl, by simp, ⟨Nat.zero_le _, fun q y h => by simp at h⟩, h0, KeepC.refl _ _ _⟩
  case round =>
    obtain ⟨z, ys, rfl, hz, HBK, HJ, HK⟩ := hrel
    have r0 : wr.cell? ⟨Bt, 0, none⟩ = some (.slice A n c) := HK.out.cell (p := ⟨Bt, 0, none⟩) hBa (HR.out.cell 0)
    by_cases hlt : ys.length < n
    · obtain ⟨k, hk⟩ : ∃ k, n - 1 - ys.length = k := ⟨_, rfl⟩
      have hkn : k < n := by omega
      obtain ⟨bb, off, x, A1, n1, c1, rfl, _, hgb, hx, hnc1, hat, hxt, hxd⟩ := HD.out.at_ hkn
      obtain ⟨q0, q1, q2, q3⟩ := (hat.below HB0.out hgb).keepC HK.out (show bb < a by omega)
      obtain rfl : z = (k : Int) := by omega
      have HKK : Hid (k = n - 1 - ys.length) := hk.symm
      have b0 : (0 : Int) ≤ (k : Int) := by omega
      have b1 : (k : Int) < (n : Int) := by omega
      obtain ⟨y, hy1, hy2⟩ : ∃ y : Bk W₀ d, (y.i = k ∧ y.x = x) ∧ y.x.ag y.A y.n y.c = x.ag A1 n1 c1 := ⟨⟨k, x, A1, n1, c1, hnc1, hxt, hxd⟩, ⟨rfl, rfl⟩, rfl⟩
      have HBN : Hid (BackOf n xs (ys ++ [y])) := HBK.out.snoc y hlt (by rw [hy1.1]; exact hk.symm) (by rw [hk, hy1.2]; exact hx)
      have hRR := HY.out (n' - 1) ys y wr HJ.out hlt
      rw [hy2, hy1.1] at hRR
      obtain ⟨xk, xm, xt, xks⟩ := x
      change YieldAt Fence.wide (n' - 1) Tryd.prog l #[.int .i64 (k : Int), .agg #[.int .i64 xk, .int .i64 xm, .string xt, .slice A1 n1 c1]] wr _ at hRR
      obtain ⟨fn, tmps, assign, body, hyy, hR⟩ := hRR
      change wr.cell? ⟨bb, off + k * 4, none⟩ = some (.int .i64 xk) at q0
      change wr.cell? ⟨bb, off + k * 4 + 1, none⟩ = some (.int .i64 xm) at q1
      change wr.cell? ⟨bb, off + k * 4 + 2, none⟩ = some (.string xt) at q2
      have HYL : Hid ((ys ++ [y]).length = ys.length + 1) := by show _ = _; simp
      have HLT := Lib.hid hlt
      clear hx hat hxt hxd hnc1 hk hy1 hy2 hz hkn hlt
      gi_wp2_with ((try refine ⟨hdd _, ?_⟩); refine hR.mono ?_; clear hR hyy; rintro e W2 (⟨rfl, hJ2, hk2⟩ | ⟨rfl, hx2⟩))
      · refine ⟨⟨_, ys ++ [y], rfl, ?_, HBN, hJ2, HK.out.trans hk2⟩, ?_⟩
        · rw [HYL.out]
          have := HKK.out
          have := HLT.out
          omega
        · first | (simp [intOf]; done) | (simp [intOf]; omega)
      · exact bodyPost_ret (results_none (by rfl) _ _ _) rfl ⟨⟨_, rfl⟩, .inr ⟨ys ++ [y], HBN.out, hx2⟩⟩
    · obtain rfl : z = -1 := by have := HBK.out.1; omega
      have HYN : Hid (ys.length = n) := by have := HBK.out.1; show _ = _; omega
      gi_wp2
      go_end0
      exact ⟨⟨_, rfl⟩, .inl ⟨ys, ⟨HBK.out, HYN.out⟩, HJ.out⟩⟩
end Go.Proofs.YtjeiiljdhnmofaaDoor
