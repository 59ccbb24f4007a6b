/- The law's walk: FnExactReplaceMatch. No condition but that the strings fit in memory. -/
import Derived.Test.YtdlhoakcpdaboaaMtLaw
import Derived.Test.YtdlhoakcpdaboaaReplM
namespace Go.Proofs.Ytdlhoakcpdaboaa
open Go Go.RowKit

set_option maxHeartbeats 4000000 in
set_option maxRecDepth 100000 in
theorem walk_FnExactReplaceMatch (s : ByteArray) (hs : s.size ≤ maxLen) (x : Mt) (l : MtLay) (t : ByteArray) (ht : t.size ≤ maxLen) (W : World) (ha : MtV W W.heap.size x l) :
    Calls Try.prog 5 #[.string s, x.ag l, .string t] W fun e w' => e = .returned (.bool true) ∧ Below W.heap.size W w' := by
  obtain ⟨x0, x1, x2⟩ := x
  obtain ⟨A2a, n2a, c2a, h2a⟩ := l
  have HA := Lib.hid ha
  have HC := Lib.hid (fun X (e : X = W.alloc (.cells #[.int .i64 x0, .int .i64 x1, .slice A2a n2a c2a] 24)) => (show Law1 W x0 x1 A2a n2a c2a X from by rw [e]; exact ⟨RW.new _ _ _, below_alloc _ _⟩))
  unfold maxLen at hs ht
  clear ha
  show Calls Try.prog 5 #[.string s, .agg #[.int .i64 x0, .int .i64 x1, .slice A2a n2a c2a], .string t] W _
  by_cases c0 : (s.size : Int) ≤ 1048576
  · have d0 : decide ((1048576 : Int) < (s.size : Int)) = false := by simp; omega
    by_cases ct : (t.size : Int) ≤ 1048576
    · have dt : decide ((1048576 : Int) < (t.size : Int)) = false := by simp; omega
      have HM : Hid (s.size ≤ 1048576) := by show _ ≤ _; omega
      have HM2 : Hid (t.size ≤ 1048576) := by show _ ≤ _; omega
      by_cases c1 : (szMt1 ⟨x0, x1, x2⟩ : Int) ≤ 1048576
      · have C1 := Lib.hid c1
        have hs1 := small_Mt1 c1
        have TA := Lib.hid (fun (w : World) (h : Law1 W x0 x1 A2a n2a c2a w) => toMatch_any ⟨x0, x1, x2⟩ ⟨A2a, n2a, c2a, h2a⟩ w (HA.out.go h.2) hs1)
        clear c1 hs1
        obtain ⟨E, hE⟩ : ∃ E, rpT s t x0 x1 = E := ⟨_, rfl⟩
        obtain ⟨C, hC⟩ : ∃ C, rpC s t x0 x1 = C := ⟨_, rfl⟩
        have HE := Lib.hid hE
        have HF := Lib.hid hC
        clear hE hC
        have tk1 : True := trivial
        have tk2 : True := trivial
        go_enter Try.func5, Try.ntmps5
        go_wp2_with (go_at_call 10; have g := HC.out _ rfl; have HQ := szMatch_any ⟨x0, x1, x2⟩ ⟨A2a, n2a, c2a, h2a⟩ 1048576 _ (HA.out.go g.2) (by decide) (by decide); refine Calls.mono HQ ?_; clear HQ; intro e w1 h; obtain ⟨z1, rfl, hz1, l1, u1, hb⟩ := h.fits C1.out (by decide); have d1 : decide (z1 < 0) = false := (by simp; omega); have H1 := Lib.hid (g.grow hb); have p0 : w1.cell? ⟨W.heap.size, 0, none⟩ = some (.int .i64 x0) := H1.out.1.cell 0; have p1 : w1.cell? ⟨W.heap.size, 1, none⟩ = some (.int .i64 x1) := H1.out.1.cell 1; have p2 : w1.cell? ⟨W.heap.size, 2, none⟩ = some (.slice A2a n2a c2a) := H1.out.1.cell 2; clear g h hb hz1 HC)
        go_wp2_with (first
          | (go_at_call 12; have tk := tk1; have HQ := TA.out _ H1.out; refine Calls.mono HQ ?_; clear HQ; rintro e w2 ⟨⟨A2m, n2m, c2m, h2m⟩, he, h⟩; obtain rfl : e = .returned (.agg #[.int .i64 x0, .int .i64 x1, .slice A2m n2m c2m]) := he; obtain ⟨hv, hb, hq⟩ := h.out; have H2 := Lib.hid (H1.out.grow hb); clear h hv hb hq tk tk1 p0 p1 p2)
          | (go_at_call 17; refine Calls.mono (spec_ReplaceMatch_any _ _ _ _ _ _ _ _ HM.out HM2.out) ?_; rintro e w3 ⟨rfl, hb⟩; rw [HE.out, HF.out]; have H3 := Lib.hid (H2.out.grow hb); have p0 : w3.cell? ⟨W.heap.size, 0, none⟩ = some (.int .i64 x0) := H3.out.1.cell 0; have p1 : w3.cell? ⟨W.heap.size, 1, none⟩ = some (.int .i64 x1) := H3.out.1.cell 1; have p2 : w3.cell? ⟨W.heap.size, 2, none⟩ = some (.slice A2a n2a c2a) := H3.out.1.cell 2; clear hb H2 H1)
          | (go_at_call 12; have tk := tk2; have HQ := TA.out _ H3.out; refine Calls.mono HQ ?_; clear HQ; rintro e w4 ⟨⟨A2p, n2p, c2p, h2p⟩, he, h⟩; obtain rfl : e = .returned (.agg #[.int .i64 x0, .int .i64 x1, .slice A2p n2p c2p]) := he; obtain ⟨hv, hb, hq⟩ := h.out; have H4 : Hid (Law2 W x0 x1 x2 A2a n2a c2a w4.heap.size A2p n2p c2p h2p (w4.alloc (.cells #[.int .i64 x0, .int .i64 x1, .slice A2p n2p c2p] 29))) := ⟨(H3.out.grow hb).grow (below_alloc _ _), RW.new _ _ _, hv.alloc _⟩; clear h hv hb hq tk tk2 p0 p1 p2)
          | (go_at_call 18; refine Calls.mono (impl_ReplaceMatch_any _ _ _ _ _ _ _ _ HM.out HM2.out) ?_; rintro e w5 ⟨rfl, hb⟩; rw [HE.out, HF.out]; have H5 := Lib.hid (H4.out.grow hb); clear hb H4 H3))
        have H9 := Lib.hid (H5.out.grow (Below.refl _ _).drew)
        go_region_held3 (fun w => Flat2 W x0 x1 x2 A2a n2a c2a w4.heap.size A2p n2p c2p h2p w)
          (first | exact H9.out.flat | exact H10.out.flat | exact H11.out.flat | go_keep)
          ((first
            | (go_at_call 12; have HQ := TA.out _ H9.out.1; refine Calls.mono HQ ?_; clear HQ; rintro e w6 ⟨⟨A2u, n2u, c2u, h2u⟩, he, h⟩; obtain rfl : e = .returned (.agg #[.int .i64 x0, .int .i64 x1, .slice A2u n2u c2u]) := he; obtain ⟨hv, hb, hq⟩ := h.out; have HVC := Lib.hid hv; have H10 := Lib.hid (H9.out.grow hb); clear h hv hb hq)
            | (go_at_call 14; have HQ := eqMatch_same ⟨x0, x1, x2⟩ ⟨A2p, n2p, c2p, h2p⟩ ⟨A2u, n2u, c2u, h2u⟩ _ H10.out.2.2 HVC.out; refine Calls.mono HQ ?_; clear HQ; rintro e w7 ⟨rfl, hb⟩; have H11 := Lib.hid (H10.out.grow hb); clear hb)))
        go_split_ands
        go_wp2_with fail
        go_ret
        exact ⟨rfl, H11.out.1.2⟩
      · have C1 := Lib.hid c1
        clear c1
        go_enter Try.func5, Try.ntmps5
        go_wp2_with (go_at_call 10; have g := HC.out _ rfl; have HQ := szMatch_any ⟨x0, x1, x2⟩ ⟨A2a, n2a, c2a, h2a⟩ 1048576 _ (HA.out.go g.2) (by decide) (by decide); refine Calls.mono HQ ?_; clear HQ; intro e w1 h; obtain ⟨rfl, hb⟩ := h.long C1.out; have HB1 := Lib.hid (g.grow hb).2; clear g h hb HC)
        go_ret
        exact ⟨rfl, HB1.out⟩
    · have dt : decide ((1048576 : Int) < (t.size : Int)) = true := by simp; omega
      go_enter Try.func5, Try.ntmps5
      go_wp2_with fail
      go_ret
      exact ⟨rfl, below_alloc _ _⟩
  · have d0 : decide ((1048576 : Int) < (s.size : Int)) = true := by simp; omega
    go_enter Try.func5, Try.ntmps5
    go_wp2_with fail
    go_ret
    exact ⟨rfl, below_alloc _ _⟩
end Go.Proofs.Ytdlhoakcpdaboaa
