/- Contracts: FitsHeap, ValidRoots of both, l08Valid of the model. Condition: the table holds what the program's text lays (the program's). -/
import Derived.Test.YtbdmanadmckjjaaDoorHpOk
import Derived.Test.YtbdmanadmckjjaaDoorIdxHp
namespace Go.Proofs.YtbdmanadmckjjaaDoor
open Go Go.RowKit

theorem hpt_of {T : TypeId} {w : World} {g : Nat} {nx : Int} {A : Option Addr} {n c : Nat} {os : List Ob} (h : RW T w g #[.int .i64 nx, .slice A n c]) (ho : OI w w.heap.size A n os) : HPt w g nx A n c os := ⟨h.cell 0, h.cell 1, ho, h.lt⟩
theorem tt_and (P Q : Prop) : tt (P ∧ Q) = (tt P && tt Q) := by
  rw [Bool.eq_iff_iff, Bool.and_eq_true, tt_iff, tt_iff, tt_iff]

set_option maxHeartbeats 1000000 in
set_option maxRecDepth 100000 in
theorem spec_FitsHeap_any (nx : Int) (A : Option Addr) (n c : Nat) (os : List Ob) (x : Vl) (W : World) (ha : OI W W.heap.size A n os) (hx : x.t.size ≤ maxLen) :
    Calls Tryd.prog 16 #[.agg #[.int .i64 nx, .slice A n c], x.ag] W fun e w' => e = .returned (.bool (tt (ValidH nx os ∧ Fits os x))) ∧ Below W.heap.size W w' := by
  rw [tt_and]
  have HA := Lib.hid ha
  have HX := Lib.hid hx
  obtain ⟨k, m, t, r⟩ := x
  have HC := Lib.hid (fun X T T' (e : X = (W.alloc (.cells #[.int .i64 nx, .slice A n c] T)).alloc (.cells #[.int .i64 k, .int .i64 m, .string t, .int .i64 r] T')) => (show RW T X W.heap.size #[.int .i64 nx, .slice A n c] ∧ RW T' X (W.heap.size + 1) #[.int .i64 k, .int .i64 m, .string t, .int .i64 r] ∧ Below W.heap.size W X ∧ X.heap.size = W.heap.size + 2 from by
    subst e
    refine ⟨(RW.new W _ T).alloc _, ?_, (below_alloc _ _).alloc (by simp) _, by simp⟩
    have := RW.new (W.alloc (.cells #[.int .i64 nx, .slice A n c] T)) #[.int .i64 k, .int .i64 m, .string t, .int .i64 r] T'
    simpa using this))
  clear ha hx
  obtain ⟨V, hV⟩ : ∃ V, tt (ValidH nx os) = V := ⟨_, rfl⟩
  have HV := Lib.hid hV
  obtain ⟨F, hF⟩ : ∃ F, tt (Fits os ⟨k, m, t, r⟩) = F := ⟨_, rfl⟩
  have HF := Lib.hid hF
  rw [hV, hF]
  clear hV hF
  show Calls Tryd.prog 16 #[.agg #[.int .i64 nx, .slice A n c], .agg #[.int .i64 k, .int .i64 m, .string t, .int .i64 r]] W _
  cases V
  · go_enter Tryd.func16, Tryd.ntmps16
    go_wp2_with (go_at_call 40; obtain ⟨g0, g1, g2, g3⟩ := HC.out _ _ _ rfl; refine Calls.mono (l07Ok_any W.heap.size nx A n c os _ (hpt_of g0 (HA.out.go g2))) ?_; rintro e w1 ⟨rfl, hb⟩; rw [HV.out]; have HB1 := Lib.hid (g2.trans (hb.mono g2.size)); clear g0 g1 g2 g3 hb)
    all_goals go_ret
    all_goals exact ⟨rfl, HB1.out⟩
  · have HRI := Lib.hid (of_tt HV.out).2.2.2.1
    cases F
    all_goals
      go_enter Tryd.func16, Tryd.ntmps16
      go_wp2_with (first
        | (go_at_call 40; obtain ⟨g0, g1, g2, g3⟩ := HC.out _ _ _ rfl; have hp := hpt_of g0 (HA.out.go g2); refine Calls.mono (l07Ok_any W.heap.size nx A n c os _ hp) ?_; rintro e w1 ⟨rfl, hb⟩; rw [HV.out]; have HB1 := Lib.hid (g2.trans (hb.mono g2.size)); have HP1 := Lib.hid (hp.go hb); have hr1 := g1.below hb (by omega); have q0 : w1.cell? ⟨W.heap.size + 1, 0, none⟩ = some (.int .i64 k) := hr1.cell 0; have q1 : w1.cell? ⟨W.heap.size + 1, 1, none⟩ = some (.int .i64 m) := hr1.cell 1; have q2 : w1.cell? ⟨W.heap.size + 1, 2, none⟩ = some (.string t) := hr1.cell 2; have q3 : w1.cell? ⟨W.heap.size + 1, 3, none⟩ = some (.int .i64 r) := hr1.cell 3; clear g0 g1 g2 g3 hb hp hr1 HC)
        | (go_at_call 44; refine Calls.mono (l07Fits_any W.heap.size nx A n c os ⟨k, m, t, r⟩ _ HP1.out HRI.out HX.out) ?_; rintro e w2 ⟨rfl, hb⟩; rw [HF.out]; have HB2 := Lib.hid (HB1.out.trans (hb.mono HB1.out.size)); clear hb q0 q1 q2 q3))
      all_goals go_ret
      all_goals exact ⟨rfl, HB2.out⟩

set_option maxHeartbeats 1000000 in
set_option maxRecDepth 100000 in
theorem impl_FitsHeap_any (nx : Int) (b off n c : Nat) (os : List Ob) (x : Vl) (W : World) (ha : OI W W.heap.size (some ⟨b, off, none⟩) n os) (hx : x.t.size ≤ maxLen) (hT : Classes W) :
    Calls Tryd.prog 18 #[.agg #[.int .i64 nx, .slice (some ⟨b, off, none⟩) n c], x.ag] W fun e w' => e = .returned (.bool (tt (ValidH nx os ∧ Fits os x))) ∧ Below W.heap.size W w' := by
  rw [tt_and]
  have HA := Lib.hid ha
  have HX := Lib.hid hx
  have HT := Lib.hid hT
  obtain ⟨k, m, t, r⟩ := x
  have HC := Lib.hid (fun X T T' (e : X = (W.alloc (.cells #[.int .i64 nx, .slice (some ⟨b, off, none⟩) n c] T)).alloc (.cells #[.int .i64 k, .int .i64 m, .string t, .int .i64 r] T')) => (show RW T' X (W.heap.size + 1) #[.int .i64 k, .int .i64 m, .string t, .int .i64 r] ∧ Below W.heap.size W X ∧ X.heap.size = W.heap.size + 2 from by
    subst e
    refine ⟨?_, (below_alloc _ _).alloc (by simp) _, by simp⟩
    have := RW.new (W.alloc (.cells #[.int .i64 nx, .slice (some ⟨b, off, none⟩) n c] T)) #[.int .i64 k, .int .i64 m, .string t, .int .i64 r] T'
    simpa using this))
  clear ha hx hT
  obtain ⟨V, hV⟩ : ∃ V, tt (ValidH nx os) = V := ⟨_, rfl⟩
  have HV := Lib.hid hV
  obtain ⟨F, hF⟩ : ∃ F, tt (Fits os ⟨k, m, t, r⟩) = F := ⟨_, rfl⟩
  have HF := Lib.hid hF
  rw [hV, hF]
  clear hV hF
  show Calls Tryd.prog 18 #[.agg #[.int .i64 nx, .slice (some ⟨b, off, none⟩) n c], .agg #[.int .i64 k, .int .i64 m, .string t, .int .i64 r]] W _
  cases V
  · go_enter Tryd.func18, Tryd.ntmps18
    go_wp2_with (go_at_call 42; obtain ⟨g1, g2, g3⟩ := HC.out _ _ _ rfl; refine Calls.mono (indexHeap_any nx b off n c os _ (HA.out.go g2) (classes_go HT.out g2)) ?_; intro e w1 h; obtain ⟨rfl, hb⟩ := h.not HV.out; have HB1 := Lib.hid (g2.trans (hb.mono g2.size)); clear g1 g2 g3 h hb)
    all_goals go_ret
    all_goals exact ⟨rfl, HB1.out⟩
  · have HRI := Lib.hid (of_tt HV.out).2.2.2.1
    cases F
    all_goals
      go_enter Tryd.func18, Tryd.ntmps18
      go_wp2_with (first
        | (go_at_call 42; obtain ⟨g1, g2, g3⟩ := HC.out _ _ _ rfl; refine Calls.mono (indexHeap_any nx b off n c os _ (HA.out.go g2) (classes_go HT.out g2)) ?_; intro e w1 h; obtain ⟨mm, rfl, hi, hm, hb⟩ := h.yes HV.out; have HB1 := Lib.hid (g2.trans (hb.mono g2.size)); have HI1 := Lib.hid hi; have HM1 := Lib.hid hm; have hr1 := g1.below hb (by omega); have q0 : w1.cell? ⟨W.heap.size + 1, 0, none⟩ = some (.int .i64 k) := hr1.cell 0; have q1 : w1.cell? ⟨W.heap.size + 1, 1, none⟩ = some (.int .i64 m) := hr1.cell 1; have q2 : w1.cell? ⟨W.heap.size + 1, 2, none⟩ = some (.string t) := hr1.cell 2; have q3 : w1.cell? ⟨W.heap.size + 1, 3, none⟩ = some (.int .i64 r) := hr1.cell 3; clear g1 g2 g3 h hb hi hm hr1 HC)
        | (go_at_call 45; refine Calls.mono (fits_any mm b off n os ⟨k, m, t, r⟩ _ HI1.out HM1.out (HA.out.go HB1.out) HRI.out HX.out (classes_go HT.out HB1.out)) ?_; rintro e w2 ⟨rfl, hb⟩; rw [HF.out]; have HB2 := Lib.hid (HB1.out.trans (hb.mono HB1.out.size)); clear hb q0 q1 q2 q3))
      all_goals go_ret
      all_goals exact ⟨rfl, HB2.out⟩

set_option maxHeartbeats 1000000 in
set_option maxRecDepth 100000 in
theorem l08Valid_any (g : Nat) (nx : Int) (A : Option Addr) (n c : Nat) (os : List Ob) (A' : Option Addr) (n' c' : Nat) (xs : List Vl) (W : World) (h : HPt W g nx A n c os) (hx : VI W W.heap.size A' n' xs) :
    Calls Tryd.prog 47 #[.pointer (some ⟨g, 0, none⟩), .slice A' n' c'] W fun e w' => e = .returned (.bool (tt (ValidH nx os ∧ FitAll os xs))) ∧ Below W.heap.size W w' := by
  rw [tt_and]
  have H := Lib.hid h
  have HX := Lib.hid hx
  clear h hx
  obtain ⟨V, hV⟩ : ∃ V, tt (ValidH nx os) = V := ⟨_, rfl⟩
  have HV := Lib.hid hV
  obtain ⟨F, hF⟩ : ∃ F, tt (FitAll os xs) = F := ⟨_, rfl⟩
  have HF := Lib.hid hF
  rw [hV, hF]
  clear hV hF
  cases V
  · go_enter Tryd.func47, Tryd.ntmps47
    go_wp2_with (go_at_call 40; refine Calls.mono (l07Ok_any g nx A n c os _ H.out) ?_; rintro e w1 ⟨rfl, hb⟩; rw [HV.out]; have HB1 := Lib.hid hb; clear hb)
    all_goals go_ret
    all_goals exact ⟨rfl, HB1.out⟩
  · have HRI := Lib.hid (of_tt HV.out).2.2.2.1
    cases F
    all_goals
      go_enter Tryd.func47, Tryd.ntmps47
      go_wp2_with (first
        | (go_at_call 40; refine Calls.mono (l07Ok_any g nx A n c os _ H.out) ?_; rintro e w1 ⟨rfl, hb⟩; rw [HV.out]; have HB1 := Lib.hid hb; clear hb)
        | (go_at_call 74; refine Calls.mono (l07FitAll_any g nx A n c os A' n' c' xs _ (H.out.go HB1.out) HRI.out (HX.out.go HB1.out)) ?_; rintro e w2 ⟨rfl, hb⟩; rw [HF.out]; have HB2 := Lib.hid (HB1.out.trans (hb.mono HB1.out.size)); clear hb))
      all_goals go_ret
      all_goals exact ⟨rfl, HB2.out⟩

set_option maxRecDepth 100000 in
theorem spec_ValidRoots_any (nx : Int) (A : Option Addr) (n c : Nat) (os : List Ob) (A' : Option Addr) (n' c' : Nat) (xs : List Vl) (W : World) (ha : OI W W.heap.size A n os) (hx : VI W W.heap.size A' n' xs) :
    Calls Tryd.prog 22 #[.agg #[.int .i64 nx, .slice A n c], .slice A' n' c'] W fun e w' => e = .returned (.bool (tt (ValidH nx os ∧ FitAll os xs))) ∧ Below W.heap.size W w' := by
  have HA := Lib.hid ha
  have HX := Lib.hid hx
  have HC := Lib.hid (one_new W 29 #[.int .i64 nx, .slice A n c])
  clear ha hx
  go_enter Tryd.func22, Tryd.ntmps22
  go_wp2_with (go_at_call 47; obtain ⟨g0, g1, g2⟩ := HC.out _ rfl; refine Calls.mono (l08Valid_any W.heap.size nx A n c os A' n' c' xs _ (hpt_of g0 (HA.out.go g1)) (HX.out.go g1)) ?_; rintro e w1 ⟨rfl, hb⟩; have HB1 := Lib.hid (g1.trans (hb.mono g1.size)); clear g0 g1 g2 hb HA)
  all_goals go_ret
  all_goals exact ⟨rfl, HB1.out⟩

set_option maxHeartbeats 1000000 in
set_option maxRecDepth 100000 in
theorem impl_ValidRoots_any (nx : Int) (b off n c : Nat) (os : List Ob) (A' : Option Addr) (n' c' : Nat) (xs : List Vl) (W : World) (ha : OI W W.heap.size (some ⟨b, off, none⟩) n os) (hx : VI W W.heap.size A' n' xs) (hT : Classes W) :
    Calls Tryd.prog 24 #[.agg #[.int .i64 nx, .slice (some ⟨b, off, none⟩) n c], .slice A' n' c'] W fun e w' => e = .returned (.bool (tt (ValidH nx os ∧ FitAll os xs))) ∧ Below W.heap.size W w' := by
  rw [tt_and]
  have HA := Lib.hid ha
  have HX := Lib.hid hx
  have HT := Lib.hid hT
  have HC := Lib.hid (one_new W 29 #[.int .i64 nx, .slice (some ⟨b, off, none⟩) n c])
  clear ha hx hT
  obtain ⟨V, hV⟩ : ∃ V, tt (ValidH nx os) = V := ⟨_, rfl⟩
  have HV := Lib.hid hV
  obtain ⟨F, hF⟩ : ∃ F, tt (FitAll os xs) = F := ⟨_, rfl⟩
  have HF := Lib.hid hF
  rw [hV, hF]
  clear hV hF
  cases V
  · go_enter Tryd.func24, Tryd.ntmps24
    go_wp2_with (go_at_call 42; obtain ⟨g0, g1, g2⟩ := HC.out _ rfl; refine Calls.mono (indexHeap_any nx b off n c os _ (HA.out.go g1) (classes_go HT.out g1)) ?_; intro e w1 h; obtain ⟨rfl, hb⟩ := h.not HV.out; have HB1 := Lib.hid (g1.trans (hb.mono g1.size)); clear g0 g1 g2 h hb)
    all_goals go_ret
    all_goals exact ⟨rfl, HB1.out⟩
  · have HRI := Lib.hid (of_tt HV.out).2.2.2.1
    cases F
    all_goals
      go_enter Tryd.func24, Tryd.ntmps24
      go_wp2_with (first
        | (go_at_call 42; obtain ⟨g0, g1, g2⟩ := HC.out _ rfl; refine Calls.mono (indexHeap_any nx b off n c os _ (HA.out.go g1) (classes_go HT.out g1)) ?_; intro e w1 h; obtain ⟨mm, rfl, hi, hm, hb⟩ := h.yes HV.out; have HB1 := Lib.hid (g1.trans (hb.mono g1.size)); have HI1 := Lib.hid hi; have HM1 := Lib.hid hm; clear g0 g1 g2 h hb hi hm HC)
        | (go_at_call 48; refine Calls.mono (fitAll_any mm b off n os A' n' c' xs _ HI1.out HM1.out (HA.out.go HB1.out) HRI.out (HX.out.go HB1.out) (classes_go HT.out HB1.out)) ?_; rintro e w2 ⟨rfl, hb⟩; rw [HF.out]; have HB2 := Lib.hid (HB1.out.trans (hb.mono HB1.out.size)); clear hb))
      all_goals go_ret
      all_goals exact ⟨rfl, HB2.out⟩
end Go.Proofs.YtbdmanadmckjjaaDoor
