/- A block's cells as a list; what a sz-function answers. No condition. -/
import Derived.Test.YtbdmanadmckjjaaDoorObs
namespace Go.Proofs.YtbdmanadmckjjaaDoor
open Go Go.RowKit

theorem O10.of_blk {w : World} {g : Nat} {o : Ob} {l : Lay} (h : Blk w g (o.vs l)) : O10 w g 0 o l :=
  ⟨h 0 _ rfl, h 1 _ rfl, h 2 _ rfl, h 3 _ rfl, h 4 _ rfl, h 5 _ rfl, h 6 _ rfl, h 7 _ rfl, h 8 _ rfl, h 9 _ rfl⟩
/-- Behind a new block, all that was below stands. -/
theorem VI.alloc {W : World} {A : Option Addr} {n : Nat} {xs : List Vl} (h : VI W W.heap.size A n xs) (o : Obj) : VI (W.alloc o) (W.alloc o).heap.size A n xs := (h.below (below_alloc W o)).more (by simp)
theorem OV.alloc {W : World} {o : Ob} {l : Lay} (h : OV W W.heap.size o l) (q : Obj) : OV (W.alloc q) (W.alloc q).heap.size o l := (h.below (below_alloc W q)).more (by simp)
theorem OI.alloc {W : World} {A : Option Addr} {n : Nat} {os : List Ob} (h : OI W W.heap.size A n os) (o : Obj) : OI (W.alloc o) (W.alloc o).heap.size A n os := (h.below (below_alloc W o)).more (by simp)
theorem VI.go {W w : World} {A : Option Addr} {n : Nat} {xs : List Vl} (h : VI W W.heap.size A n xs) (hb : Below W.heap.size W w) : VI w w.heap.size A n xs := (h.below hb).more hb.size
theorem OV.go {W w : World} {o : Ob} {l : Lay} (h : OV W W.heap.size o l) (hb : Below W.heap.size W w) : OV w w.heap.size o l := (h.below hb).more hb.size
theorem OI.go {W w : World} {A : Option Addr} {n : Nat} {os : List Ob} (h : OI W W.heap.size A n os) (hb : Below W.heap.size W w) : OI w w.heap.size A n os := (h.below hb).more hb.size

/-- What szObject takes of the bound. -/
def szO (o : Ob) : Nat := o.name.size + szV o.keys + szV o.vals + o.d.t.size

set_option maxHeartbeats 1000000 in
set_option maxRecDepth 100000 in
theorem szObject_any (o : Ob) (l : Lay) (L : Int) (W : World) (ho : OV W W.heap.size o l) (h0 : 0 ≤ L) (hL : L ≤ 1048576) :
    Calls Tryd.prog 32 #[o.ag l, .int .i64 L] W (SzL (szO o) L W) := by
  obtain ⟨s, hs⟩ : ∃ s, szO o = s := ⟨_, rfl⟩
  rw [hs]
  unfold szO at hs
  obtain ⟨id, kind, name, low, ks, vs, ⟨dk, dn, dt, dr⟩⟩ := o
  obtain ⟨Ak, nk, ck, Av, nv, cv, hck, hcv⟩ := l
  obtain ⟨hk, hv, hn, hd⟩ := ho
  dsimp only at hk hv hn hd hs
  have HK := Lib.hid hk
  have HV := Lib.hid hv
  have HD := Lib.hid hd
  have HS := Lib.hid hs
  have HL := Lib.hid hL
  have HC := Lib.hid (fun X (e : X = W.alloc (.cells #[.int .i64 id, .int .i64 kind, .string name, .int .i64 low, .slice Ak nk ck, .slice Av nv cv, .int .i64 dk, .int .i64 dn, .string dt, .int .i64 dr] 57)) => (show Blk X W.heap.size (Ob.vs ⟨id, kind, name, low, ks, vs, ⟨dk, dn, dt, dr⟩⟩ ⟨Ak, nk, ck, Av, nv, cv, hck, hcv⟩) ∧ Below W.heap.size W X ∧ W.heap.size < X.heap.size from by rw [e]; exact ⟨Blk.new _ _ _, below_alloc _ _, lt_alloc _ _⟩))
  unfold maxLen at hn
  clear hk hv hd hs
  show Calls Tryd.prog 32 #[.agg #[.int .i64 id, .int .i64 kind, .string name, .int .i64 low, .slice Ak nk ck, .slice Av nv cv, .int .i64 dk, .int .i64 dn, .string dt, .int .i64 dr], .int .i64 L] W _
  by_cases c1 : (name.size : Int) ≤ L
  · have d1 : decide (L - (name.size : Int) < 0) = false := by simp; omega
    by_cases c2 : (szV ks : Int) ≤ L - (name.size : Int)
    · have H2 := Lib.hid c2
      have b0 : (0 : Int) ≤ L - (name.size : Int) := by omega
      have b1 : L - (name.size : Int) ≤ 1048576 := by omega
      have B0 := Lib.hid b0
      have B1 := Lib.hid b1
      by_cases c3 : (szV ks : Int) + (szV vs : Int) ≤ L - (name.size : Int)
      · have H3 := Lib.hid c3
        by_cases c4 : (szV ks : Int) + (szV vs : Int) + (dt.size : Int) ≤ L - (name.size : Int)
        · have H4 := Lib.hid c4
          clear c2 c3 c4 b0 b1
          go_enter Tryd.func32, Tryd.ntmps32
          go_wp2_with (go_at_call 21; obtain ⟨g0, g1, g2⟩ := HC.out _ rfl; have HQ := szValueS_any Ak nk ck ks (L - (name.size : Int)) _ (HK.out.go g1) B0.out B1.out; refine Calls.mono HQ ?_; clear HQ; intro e w1 h; obtain ⟨z1, rfl, hz1, l1, u1, hb⟩ := h.fits H2.out B1.out; have Z1 := Lib.hid hz1; have d2 : decide (z1 < 0) = false := (by simp; omega); have HC1 := Lib.hid (g0.below hb g2); have HB1 := Lib.hid (g1.trans (hb.mono g1.size)); have HG1 := Lib.hid (Nat.lt_of_lt_of_le g2 hb.size); have L1 := Lib.hid l1; have U1 := Lib.hid u1; have q5 := HC1.out 5 _ rfl; clear hb hz1 g0 g1 g2 HK)
          go_wp2_with (go_at_call 21; have HQ := szValueS_any Av nv cv vs z1 w1 (HV.out.go HB1.out) L1.out U1.out; refine Calls.mono HQ ?_; clear HQ; intro e w2 h; obtain ⟨z2, rfl, hz2, l2, u2, hb⟩ := h.fits (by have := H3.out; have := Z1.out; omega) U1.out; have Z2 := Lib.hid hz2; have d3 : decide (z2 < 0) = false := (by simp; omega); have HC2 := Lib.hid (HC1.out.below hb HG1.out); have HB2 := Lib.hid (HB1.out.trans (hb.mono HB1.out.size)); have L2 := Lib.hid l2; have U2 := Lib.hid u2; have q6 := HC2.out 6 _ rfl; have q7 := HC2.out 7 _ rfl; have q8 := HC2.out 8 _ rfl; have q9 := HC2.out 9 _ rfl; clear hb hz2 q5 HV)
          go_wp2_with (go_at_call 15; refine (szValue_L ⟨dk, dn, dt, dr⟩ _ _ L2.out U2.out HD.out).mono ?_; intro e w3 h; obtain ⟨z3, rfl, hz3, l3, u3, hb⟩ := h.fits (by have := H4.out; have := Z1.out; have := Z2.out; dsimp only; omega) U2.out; have Z3 := Lib.hid hz3; have d4 : decide (z3 < 0) = false := (by simp; omega); have HB3 := Lib.hid (HB2.out.trans (hb.mono HB2.out.size)); clear hb hz3 q6 q7 q8 q9)
          go_ret
          refine ⟨.inl ⟨?_, ?_⟩, HB3.out⟩
          · have := HS.out; have := H4.out; omega
          · have := HS.out; have := Z1.out; have := Z2.out; have := Z3.out
            show Ending.returned (.int .i64 _) = .returned (.int .i64 _)
            congr 2
            try dsimp only at *
            omega
        · have H4 := Lib.hid c4
          clear c2 c3 c4 b0 b1
          go_enter Tryd.func32, Tryd.ntmps32
          go_wp2_with (go_at_call 21; obtain ⟨g0, g1, g2⟩ := HC.out _ rfl; have HQ := szValueS_any Ak nk ck ks (L - (name.size : Int)) _ (HK.out.go g1) B0.out B1.out; refine Calls.mono HQ ?_; clear HQ; intro e w1 h; obtain ⟨z1, rfl, hz1, l1, u1, hb⟩ := h.fits H2.out B1.out; have Z1 := Lib.hid hz1; have d2 : decide (z1 < 0) = false := (by simp; omega); have HC1 := Lib.hid (g0.below hb g2); have HB1 := Lib.hid (g1.trans (hb.mono g1.size)); have HG1 := Lib.hid (Nat.lt_of_lt_of_le g2 hb.size); have L1 := Lib.hid l1; have U1 := Lib.hid u1; have q5 := HC1.out 5 _ rfl; clear hb hz1 g0 g1 g2 HK)
          go_wp2_with (go_at_call 21; have HQ := szValueS_any Av nv cv vs z1 w1 (HV.out.go HB1.out) L1.out U1.out; refine Calls.mono HQ ?_; clear HQ; intro e w2 h; obtain ⟨z2, rfl, hz2, l2, u2, hb⟩ := h.fits (by have := H3.out; have := Z1.out; omega) U1.out; have Z2 := Lib.hid hz2; have d3 : decide (z2 < 0) = false := (by simp; omega); have HC2 := Lib.hid (HC1.out.below hb HG1.out); have HB2 := Lib.hid (HB1.out.trans (hb.mono HB1.out.size)); have L2 := Lib.hid l2; have U2 := Lib.hid u2; have q6 := HC2.out 6 _ rfl; have q7 := HC2.out 7 _ rfl; have q8 := HC2.out 8 _ rfl; have q9 := HC2.out 9 _ rfl; clear hb hz2 q5 HV)
          go_wp2_with (go_at_call 15; refine (szValue_L ⟨dk, dn, dt, dr⟩ _ _ L2.out U2.out HD.out).mono ?_; intro e w3 h; obtain ⟨rfl, hb⟩ := h.long (by have := H4.out; have := Z1.out; have := Z2.out; dsimp only; omega); have HB3 := Lib.hid (HB2.out.trans (hb.mono HB2.out.size)); clear hb q6 q7 q8 q9)
          go_ret
          exact ⟨.inr ⟨by have := HS.out; have := H4.out; omega, rfl⟩, HB3.out⟩
      · have H3 := Lib.hid c3
        clear c2 c3 b0 b1
        go_enter Tryd.func32, Tryd.ntmps32
        go_wp2_with (go_at_call 21; obtain ⟨g0, g1, g2⟩ := HC.out _ rfl; have HQ := szValueS_any Ak nk ck ks (L - (name.size : Int)) _ (HK.out.go g1) B0.out B1.out; refine Calls.mono HQ ?_; clear HQ; intro e w1 h; obtain ⟨z1, rfl, hz1, l1, u1, hb⟩ := h.fits H2.out B1.out; have Z1 := Lib.hid hz1; have d2 : decide (z1 < 0) = false := (by simp; omega); have HC1 := Lib.hid (g0.below hb g2); have HB1 := Lib.hid (g1.trans (hb.mono g1.size)); have L1 := Lib.hid l1; have U1 := Lib.hid u1; have q5 := HC1.out 5 _ rfl; clear hb hz1 g0 g1 g2 HK)
        go_wp2_with (go_at_call 21; have HQ := szValueS_any Av nv cv vs z1 w1 (HV.out.go HB1.out) L1.out U1.out; refine Calls.mono HQ ?_; clear HQ; intro e w2 h; obtain ⟨rfl, hb⟩ := h.long (by have := H3.out; have := Z1.out; omega); have HB2 := Lib.hid (HB1.out.trans (hb.mono HB1.out.size)); clear hb q5)
        go_ret
        exact ⟨.inr ⟨by have := HS.out; have := H3.out; omega, rfl⟩, HB2.out⟩
    · have H2 := Lib.hid c2
      have B0 : Hid (0 ≤ L - (name.size : Int)) := by show _ ≤ _; omega
      have B1 : Hid (L - (name.size : Int) ≤ 1048576) := by show _ ≤ _; omega
      clear c2
      go_enter Tryd.func32, Tryd.ntmps32
      go_wp2_with (go_at_call 21; obtain ⟨g0, g1, g2⟩ := HC.out _ rfl; have HQ := szValueS_any Ak nk ck ks (L - (name.size : Int)) _ (HK.out.go g1) B0.out B1.out; refine Calls.mono HQ ?_; clear HQ; intro e w1 h; obtain ⟨rfl, hb⟩ := h.long H2.out; have HB1 := Lib.hid (g1.trans (hb.mono g1.size)); clear hb g0 g1 g2)
      go_ret
      exact ⟨.inr ⟨by have := HS.out; have := H2.out; omega, rfl⟩, HB1.out⟩
  · have d1 : decide (L - (name.size : Int) < 0) = true := by simp; omega
    have HX : Hid (L < (s : Int)) := by have := HS.out; show _ < _; omega
    go_enter Tryd.func32, Tryd.ntmps32
    go_wp2_with fail
    go_ret
    exact ⟨.inr ⟨HX.out, rfl⟩, below_alloc _ _⟩
end Go.Proofs.YtbdmanadmckjjaaDoor
