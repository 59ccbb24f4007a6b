/- Contracts: l03Ok, ValidExpr, ExprNodes of the model; takeNodes, ExprNodes, ValidExpr of the program. Condition: the table holds what the program's text lays (the program's); the tree is not too large. -/
import Derived.Test.YtjmiobmfphkdeaaDoorExTake
import Derived.Test.YtjmiobmfphkdeaaDoorExProp
namespace Go.Proofs.YtjmiobmfphkdeaaDoor
open Go Go.RowKit

theorem tt_and2 (P Q : Prop) : tt (P ∧ Q) = (tt P && tt Q) := by
  rw [Bool.eq_iff_iff, Bool.and_eq_true, tt_iff, tt_iff, tt_iff]
/-- What ExprNodes answers. -/
noncomputable def nodesE (x : Ex) : Int := if tt (ValidE x) = true then (exCnt x : Int) else 0

set_option maxHeartbeats 1000000 in
set_option maxRecDepth 100000 in
theorem l03Ok_any (g o d : Nat) (x : Ex) (A : Option Addr) (n c : Nat) (W : World) (hg : g < W.heap.size) (hx : ExAt W g o x A n c) (hv : ExV W 0 W.heap.size d x A n) (hc : exCnt x ≤ 2000000) :
    Calls Tryd.prog 18 #[.pointer (some ⟨g, o, none⟩)] W fun e w' => e = .returned (.bool (tt (ValidE x))) ∧ W = w' := by
  have HS := Lib.hid (l03Size_all d g o x A n c W hg hx hv hc)
  have HN := Lib.hid (l03Nodes_all d g o x A n c W hg hx hv)
  clear hg hx hv hc
  obtain ⟨P, hP⟩ : ∃ P, tt (ValidE x) = P := ⟨_, rfl⟩
  have HP := Lib.hid hP
  rw [hP]
  clear hP
  obtain ⟨N, hN⟩ : ∃ N, tt (exAll x) = N := ⟨_, rfl⟩
  have HNN := Lib.hid hN
  clear hN
  by_cases hc : exCnt x ≤ 60
  · have HPN : Hid (P = N) := by
      show _ = _
      rw [← HP.out, ← HNN.out, Bool.eq_iff_iff, tt_iff, tt_iff]
      exact ⟨fun h => h.2, fun h => ⟨hc, h⟩⟩
    have HC := Lib.hid hc
    clear hc
    rw [HPN.out]
    cases N
    all_goals
      go_enter Tryd.func18, Tryd.ntmps18
      go_wp2_with (first
        | (go_at_call 21; refine Calls.mono HS.out ?_; rintro e w1 ⟨s, rfl, h, rfl⟩; have hs : decide (s ≤ 60) = true := (by have a := h.out.1; have b := HC.out; simp; omega); clear h)
        | (go_at_call 26; refine Calls.mono HN.out ?_; rintro e w2 ⟨rfl, rfl⟩; rw [HNN.out]))
      all_goals go_ret
      all_goals exact ⟨rfl, rfl⟩
  · have HPF : Hid (P = false) := by
      show _ = _
      rw [← HP.out]
      exact tt_false fun h => hc h.1
    have HC := Lib.hid hc
    clear hc
    go_enter Tryd.func18, Tryd.ntmps18
    go_wp2_with (go_at_call 21; refine Calls.mono HS.out ?_; rintro e w1 ⟨s, rfl, h, rfl⟩; have hs : decide (s ≤ 60) = false := (by have a := h.out.2.2; have b := HC.out; simp; omega); clear h)
    all_goals go_ret
    all_goals exact ⟨by rw [HPF.out]; rfl, rfl⟩

theorem box_ex (x : Ex) (A : Option Addr) (n c : Nat) (W X : World) (T : TypeId) (e : X = W.alloc (.cells #[.int .i64 x.k, .int .i64 x.n, .string x.t, .slice A n c] T)) : ExAt X W.heap.size 0 x A n c ∧ Below W.heap.size W X ∧ W.heap.size < X.heap.size := by
  subst e
  have h := RW.new W #[.int .i64 x.k, .int .i64 x.n, .string x.t, .slice A n c] T
  exact ⟨⟨h.cell 0, h.cell 1, h.cell 2, h.cell 3⟩, below_alloc _ _, lt_alloc _ _⟩

set_option maxRecDepth 100000 in
theorem spec_ValidExpr_any (d : Nat) (x : Ex) (A : Option Addr) (n c : Nat) (W : World) (hv : ExV W 0 W.heap.size d x A n) (hc : exCnt x ≤ 2000000) :
    Calls Tryd.prog 7 #[x.ag A n c] W fun e w' => e = .returned (.bool (tt (ValidE x))) ∧ Below W.heap.size W w' := by
  have HV := Lib.hid hv
  have HC := Lib.hid hc
  have HB := Lib.hid (fun X => box_ex x A n c W X 29)
  clear hv hc
  go_enter Tryd.func7, Tryd.ntmps7
  go_wp2_with (go_at_call 18; obtain ⟨g0, g1, g2⟩ := HB.out _ rfl; refine Calls.mono (l03Ok_any W.heap.size 0 d x A n c _ g2 g0 (HV.out.go g1) HC.out) ?_; rintro e w1 ⟨rfl, rfl⟩; have HB1 := Lib.hid g1; clear g0 g1 g2)
  all_goals go_ret
  all_goals exact ⟨rfl, HB1.out⟩

set_option maxRecDepth 100000 in
theorem spec_ExprNodes_any (d : Nat) (x : Ex) (A : Option Addr) (n c : Nat) (W : World) (hv : ExV W 0 W.heap.size d x A n) (hc : exCnt x ≤ 2000000) :
    Calls Tryd.prog 11 #[x.ag A n c] W fun e w' => e = .returned (.int .i64 (nodesE x)) ∧ Below W.heap.size W w' := by
  have HV := Lib.hid hv
  have HC := Lib.hid hc
  have HB := Lib.hid (fun X => box_ex x A n c W X 29)
  clear hv hc
  obtain ⟨S, hS⟩ : ∃ S, nodesE x = S := ⟨_, rfl⟩
  have HS := Lib.hid hS
  rw [hS]
  clear hS
  obtain ⟨P, hP⟩ : ∃ P, tt (ValidE x) = P := ⟨_, rfl⟩
  have HP := Lib.hid hP
  clear hP
  cases P
  · have HE : Hid (S = 0) := by show _ = _; rw [← HS.out, nodesE, if_neg (by rw [HP.out]; simp)]
    go_enter Tryd.func11, Tryd.ntmps11
    go_wp2_with (go_at_call 18; obtain ⟨g0, g1, g2⟩ := HB.out _ rfl; refine Calls.mono (l03Ok_any W.heap.size 0 d x A n c _ g2 g0 (HV.out.go g1) HC.out) ?_; rintro e w1 ⟨rfl, rfl⟩; rw [HP.out]; have HB1 := Lib.hid g1; clear g0 g1 g2)
    all_goals go_ret
    all_goals exact ⟨by rw [HE.out]; rfl, HB1.out⟩
  · have HE : Hid ((exCnt x : Int) = S) := by show _ = _; rw [← HS.out, nodesE, if_pos HP.out]
    go_enter Tryd.func11, Tryd.ntmps11
    go_wp2_with (first
      | (go_at_call 18; obtain ⟨g0, g1, g2⟩ := HB.out _ rfl; refine Calls.mono (l03Ok_any W.heap.size 0 d x A n c _ g2 g0 (HV.out.go g1) HC.out) ?_; rintro e w1 ⟨rfl, rfl⟩; rw [HP.out]; have HB1 := Lib.hid g1; clear g0 g1 g2)
      | (go_at_call 21; obtain ⟨g0, g1, g2⟩ := HB.out _ rfl; refine Calls.mono (l03Size_all d W.heap.size 0 x A n c _ g2 g0 (HV.out.go g1) HC.out) ?_; rintro e w2 ⟨s, rfl, h, rfl⟩; have HSS : Hid (s = S) := (by have a := h.out.1; have b := h.out.2.2; have c := (of_tt HP.out).1; have d := HE.out; show _ = _; rw [← d]; exact b (by omega)); clear h g0 g1 g2))
    all_goals go_ret
    all_goals exact ⟨by rw [HSS.out]; rfl, HB1.out⟩

/-- The contract of takeNodes: q the block of what is left, z. -/
def TakeAt (d : Nat) : Prop := ∀ (x : Ex) (A : Option Addr) (n c q z : Nat) (W : World), x.t.size ≤ maxLen → ExD W 0 q d A n x.kids → RW 3 W q #[.int .i64 z] → z ≤ 60 → Classes W → 0 < q →
  Calls Tryd.prog 22 #[x.ag A n c, .pointer (some ⟨q, 0, none⟩)] W fun e w' => e = .returned (.bool (tt (exCnt x ≤ z ∧ exAll x))) ∧ Hid (Below q W w' ∧ (tt (exCnt x ≤ z ∧ exAll x) = true → RW 3 w' q #[.int .i64 ((z - exCnt x : Nat) : Int)]))

set_option maxHeartbeats 4000000 in
set_option maxRecDepth 100000 in
theorem take_step (d : Nat) (x : Ex) (A : Option Addr) (n c q z : Nat) (W : World) (ih : 0 < n → TakeAt d) (ht : x.t.size ≤ maxLen) (hd : ExD W 0 q (d + 1) A n x.kids) (hq : RW 3 W q #[.int .i64 z]) (hz : z ≤ 60) (hT : Classes W) (hG : 0 < q) :
    Calls Tryd.prog 22 #[x.ag A n c, .pointer (some ⟨q, 0, none⟩)] W fun e w' => e = .returned (.bool (tt (exCnt x ≤ z ∧ exAll x))) ∧ Hid (Below q W w' ∧ (tt (exCnt x ≤ z ∧ exAll x) = true → RW 3 w' q #[.int .i64 ((z - exCnt x : Nat) : Int)])) := by
  obtain ⟨k, m, t, ks⟩ := x
  change t.size ≤ maxLen at ht
  change ExD W 0 q (d + 1) A n ks at hd
  have hqs := hq.lt
  have HPR := Lib.hid (fun X (hb : Below W.heap.size W X) => isProperNode_any k m t ks A n c (d + 1) X ht ((hd.more (Nat.le_refl _) (Nat.le_of_lt hqs)).go hb) (classes_go hT hb))
  have HD := Lib.hid hd
  have HT := Lib.hid hT
  have HGG := Lib.hid hG
  have HQ := Lib.hid hq
  have HQS := Lib.hid hqs
  have HIH := Lib.hid ih
  have HN := Lib.hid hd.1
  have hn := hd.2.1
  have p0 : ∀ o, (W.alloc o).cell? ⟨q, 0, none⟩ = some (.int .i64 z) := fun o => (hq.alloc o).cell 0
  have HBX := Lib.hid (fun X => box_ex (.node k m t ks) A n c W X 29)
  unfold maxLen at hn
  have hne : ¬ q = W.heap.size := by omega
  obtain ⟨P, hP⟩ : ∃ P, tt (exCnt (.node k m t ks) ≤ z ∧ exAll (.node k m t ks)) = P := ⟨_, rfl⟩
  have HP := Lib.hid hP
  rw [hP]
  have HPI : Hid (P = true ↔ 1 + cntK ks n ≤ z ∧ (Ex.node k m t ks).proper = true ∧ ∀ (j : Nat) (y : Ex), ks[j]? = some y → exAll y) := by
    show _ ↔ _
    rw [← hP, tt_iff, exAll, exCnt, exCnts_eq, HN.out, exAlls_iff]
  have HCE : Hid (exCnt (.node k m t ks) = 1 + cntK ks n) := by show _ = _; rw [exCnt, exCnts_eq, HN.out]
  obtain ⟨V, hV⟩ : ∃ V, (Ex.node k m t ks).proper = V := ⟨_, rfl⟩
  have HV := Lib.hid hV
  clear ht hd hq hT hG ih hP hV hqs
  show Calls Tryd.prog 22 #[.agg #[.int .i64 k, .int .i64 m, .string t, .slice A n c], .pointer (some ⟨q, 0, none⟩)] W _
  by_cases hz0 : z = 0
  · subst hz0
    have HF : Hid (P = false) := by
      cases P
      · exact Lib.hid rfl
      · exact absurd (HPI.out.1 rfl).1 (by omega)
    rw [HF.out]
    have HB0 := Lib.hid (fun X hX => (HBX.out X hX).2.1)
    go_enter Tryd.func22, Tryd.ntmps22
    go_wp2_with fail
    go_ret
    exact ⟨rfl, Lib.hid ⟨(HB0.out _ rfl).mono (Nat.le_of_lt HQS.out), fun h => by cases h⟩⟩
  · have dz : ((z : Int) == 0) = false := by simp; omega
    cases V
    · have HF : Hid (P = false) := by
        cases P
        · exact Lib.hid rfl
        · have h := (HPI.out.1 rfl).2.1
          rw [HV.out] at h
          cases h
      rw [HF.out]
      go_enter Tryd.func22, Tryd.ntmps22
      go_wp2_with (go_at_call 27; obtain ⟨g0, g1, g2⟩ := HBX.out _ rfl; refine Calls.mono (HPR.out _ g1) ?_; rintro e w1 ⟨rfl, hb⟩; rw [HV.out]; have HB1 := Lib.hid (g1.trans (hb.mono g1.size)); clear g0 g1 g2 hb)
      go_ret
      exact ⟨rfl, Lib.hid ⟨HB1.out.mono (Nat.le_of_lt HQS.out), fun h => by cases h⟩⟩
    · have hz1 : 1 ≤ z := by omega
      go_enter Tryd.func22, Tryd.ntmps22
      go_wp2_with (go_at_call 27; obtain ⟨g0, g1, g2⟩ := HBX.out _ rfl; refine Calls.mono (HPR.out _ g1) ?_; rintro e w1 ⟨rfl, hb⟩; rw [HV.out]; have HB1 := Lib.hid (g1.trans (hb.mono g1.size)); have r0 : w1.cell? ⟨q, 0, none⟩ = some (.int .i64 z) := (HQ.out.below HB1.out HQS.out).cell 0; have z0 := (HQ.out.below HB1.out HQS.out).frozen 0; have r3 : w1.cell? ⟨W.heap.size, 3, none⟩ = some (.slice A n c) := (g0.below hb g2).2.2.2; have HSZ : Hid (W.heap.size < w1.heap.size) := Nat.lt_of_lt_of_le g2 hb.size; clear g0 g1 g2 hb)
      have HW0 : Hid (Below q W (w1.setCell ⟨q, 0, none⟩ (.int .i64 ((z : Int) - 1)))) := (HB1.out.mono (Nat.le_of_lt HQS.out)).setCell (Nat.le_refl _) _
      have HR0 : Hid (RW 3 (w1.setCell ⟨q, 0, none⟩ (.int .i64 ((z : Int) - 1))) q #[.int .i64 ((z - 1 : Nat) : Int)]) := by
        have h := (HQ.out.below HB1.out HQS.out).set_ 0 (.int .i64 ((z : Int) - 1))
        have e : ((z - 1 : Nat) : Int) = (z : Int) - 1 := by omega
        rw [e]
        exact h
      have HS0 : Hid (W.heap.size ≤ (w1.setCell ⟨q, 0, none⟩ (.int .i64 ((z : Int) - 1))).heap.size) := by show _ ≤ _; rw [size_set]; exact Nat.le_of_lt HSZ.out
      clear p0 HPR HBX r0 z0 r3 HB1 HSZ
      generalize w1.setCell ⟨q, 0, none⟩ (.int .i64 ((z : Int) - 1)) = w2 at HW0 HR0 HS0 ⊢
      go_loopw [24] (fun i wr => ∃ k' s : Nat, k' ≤ n ∧ i = .int .i64 k' ∧ Hid (RW 3 wr q #[.int .i64 (s : Int)]) ∧ Hid (s + 1 + cntK ks k' = z) ∧ Hid (Below q W wr) ∧ Hid (W.heap.size ≤ wr.heap.size) ∧ Hid (∀ (j : Nat) (y : Ex), j < k' → ks[j]? = some y → exAll y)) (fun i _ => n - (intOf i).toNat)
      case atStart => exact ⟨0, z - 1, Nat.zero_le _, rfl, HR0, by show _ = _; simp [cntK]; omega, HW0, HS0, Lib.hid (fun j y hj => absurd hj (by omega))⟩
      case round =>
        obtain ⟨k', s, hk, rfl, HR, HZ, HW, HSZ, HA⟩ := hrel
        by_cases hlt : k' < n
        · obtain ⟨b, off, y, A1, n1, c1, rfl, _, hgb, hy, _, ⟨q0, q1, q2, q3⟩, hys, hyk⟩ := (HD.out.below HW.out).at_ hlt
          have HY := Lib.hid hy
          have HNX := Lib.hid (cntK_next hy)
          have b0 : (0 : Int) ≤ (k' : Int) := by omega
          have b1 : (k' : Int) < (n : Int) := by omega
          have HM := Lib.hid (cntK_mono (xs := ks) (show k' + 1 ≤ n by omega))
          have hqr : q < wr.heap.size := Nat.lt_of_lt_of_le HQS.out HSZ.out
          have HQR := Lib.hid hqr
          have HI := Lib.hid (fun X (hX : Below wr.heap.size wr X) => HIH.out (by omega) y A1 n1 c1 q s X hys (hyk.below (hX.mono (Nat.le_of_lt hqr))) (HR.out.below hX hqr) (by have := HZ.out; omega) (Classes.below HT.out (HW.out.trans (hX.mono (Nat.le_of_lt hqr))) HGG.out) HGG.out)
          obtain ⟨yk, yn, yt, yks⟩ := y
          change wr.cell? ⟨b, off + k' * 4, none⟩ = some (.int .i64 yk) at q0
          change wr.cell? ⟨b, off + k' * 4 + 1, none⟩ = some (.int .i64 yn) at q1
          change wr.cell? ⟨b, off + k' * 4 + 2, none⟩ = some (.string yt) at q2
          have HBA := Lib.hid (fun X (e : X = wr.alloc (.cells #[.int .i64 yk, .int .i64 yn, .string yt, .slice A1 n1 c1] 29)) => (show Below wr.heap.size wr X from by rw [e]; exact below_alloc _ _))
          obtain ⟨F, hF⟩ : ∃ F, tt (exCnt (.node yk yn yt yks) ≤ s ∧ exAll (.node yk yn yt yks)) = F := ⟨_, rfl⟩
          have HF := Lib.hid hF
          clear hy hys hyk hgb hF hqr
          cases F
          · have HFF : Hid (P = false) := by
              cases P
              · exact Lib.hid rfl
              · have h := HPI.out.1 rfl
                exact absurd ⟨by have a := HZ.out; have b := HNX.out; have c := HM.out; have d := h.1; omega, h.2.2 k' _ HY.out⟩ (of_tt_false HF.out)
            go_wp2_with (go_at_call 22; have g := HBA.out _ rfl; refine Calls.mono (HI.out _ g) ?_; rintro e w3 ⟨rfl, h⟩; rw [HF.out]; have HW3 := Lib.hid (HW.out.trans ((g.mono (Nat.le_of_lt HQR.out)).trans h.out.1)); clear g h)
            go_ret
            exact ⟨by rw [HFF.out]; rfl, Lib.hid ⟨HW3.out, fun h => by rw [HFF.out] at h; cases h⟩⟩
          · have HSN : Hid (∀ (j : Nat) (y : Ex), j < k' + 1 → ks[j]? = some y → exAll y) := by
              intro j w hj hw
              by_cases e : j = k'
              · rw [e, HY.out, Option.some.injEq] at hw
                rw [← hw]
                exact (of_tt HF.out).2
              · exact HA.out j w (by omega) hw
            go_wp2_with (go_at_call 22; have g := HBA.out _ rfl; refine Calls.mono (HI.out _ g) ?_; rintro e w3 ⟨rfl, h⟩; rw [HF.out]; have HR3 := Lib.hid (h.out.2 HF.out); have HW3 := Lib.hid (HW.out.trans ((g.mono (Nat.le_of_lt HQR.out)).trans h.out.1)); have HS3 : Hid (W.heap.size ≤ w3.heap.size) := (Nat.le_trans HSZ.out (Nat.le_trans g.size h.out.1.size)); clear g h)
            go_roundw
            case rel => exact ⟨k' + 1, s - exCnt (.node yk yn yt yks), by omega, by go_num, HR3, by have a := HZ.out; have b := HNX.out; have c := (of_tt HF.out).1; show _ = _; omega, HW3, HS3, HSN⟩
            case measure => simp [intOf]; omega
        · have hkn : k' = n := by omega
          have HTT : Hid (P = true) := HPI.out.2 ⟨by have := HZ.out; rw [hkn] at this; omega, by first | trivial | rfl | exact HV.out, fun j y hy => HA.out j y (by have := (List.getElem?_eq_some_iff.1 hy).1; have := HN.out; omega) hy⟩
          have HSE : Hid (z - exCnt (.node k m t ks) = s) := by have a := HCE.out; have b := HZ.out; rw [hkn] at b; show _ = _; omega
          clear hkn
          go_wp2_with fail
          go_ret
          exact ⟨by rw [HTT.out]; rfl, Lib.hid ⟨HW.out, fun _ => by rw [HSE.out]; exact HR.out⟩⟩

theorem takeNodes_all : ∀ d, TakeAt d
  | 0 => fun x A n c q z W ht hd hq hz hT hG => take_step 0 x A n c q z W (fun h => absurd h (by have := hd.2; omega)) ht hd.deeper hq hz hT hG
  | d + 1 => fun x A n c q z W ht hd hq hz hT hG => take_step d x A n c q z W (fun _ => takeNodes_all d) ht hd hq hz hT hG

set_option maxHeartbeats 1000000 in
set_option maxRecDepth 100000 in
theorem impl_ExprNodes_any (d : Nat) (x : Ex) (A : Option Addr) (n c : Nat) (W : World) (hv : ExV W 0 W.heap.size d x A n) (hT : Classes W) :
    Calls Tryd.prog 12 #[x.ag A n c] W fun e w' => e = .returned (.int .i64 (nodesE x)) ∧ Below W.heap.size W w' := by
  have HV := Lib.hid hv
  have HT := Lib.hid hT
  have HG : Hid (0 < W.heap.size) := heap_pos (hT.at_ 0 (by decide))
  clear hv hT
  obtain ⟨k, m, t, ks⟩ := x
  have HB := Lib.hid (fun X (e : X = (W.alloc (.cells #[.int .i64 k, .int .i64 m, .string t, .slice A n c] 29)).alloc (.cells #[.int .i64 60] 3)) => (show RW 3 X (W.heap.size + 1) #[.int .i64 60] ∧ Below W.heap.size W X from by
    subst e
    refine ⟨?_, (below_alloc _ _).alloc (by simp) _⟩
    have := RW.new (W.alloc (.cells #[.int .i64 k, .int .i64 m, .string t, .slice A n c] 29)) #[.int .i64 60] 3
    simpa using this))
  obtain ⟨S, hS⟩ : ∃ S, nodesE (.node k m t ks) = S := ⟨_, rfl⟩
  have HS := Lib.hid hS
  rw [hS]
  clear hS
  obtain ⟨P, hP⟩ : ∃ P, tt (exCnt (.node k m t ks) ≤ 60 ∧ exAll (.node k m t ks)) = P := ⟨_, rfl⟩
  have HP := Lib.hid hP
  clear hP
  have HQ := Lib.hid (fun X (h : RW 3 X (W.heap.size + 1) #[.int .i64 60]) (hb : Below W.heap.size W X) => takeNodes_all d (.node k m t ks) A n c (W.heap.size + 1) 60 X HV.out.1 ((HV.out.2.below hb).more (Nat.le_refl _) (Nat.le_succ _)) h (by decide) (Classes.below HT.out hb HG.out) (Nat.lt_succ_of_lt HG.out))
  show Calls Tryd.prog 12 #[.agg #[.int .i64 k, .int .i64 m, .string t, .slice A n c]] W _
  cases P
  · have HE : Hid (S = 0) := by show _ = _; rw [← HS.out, nodesE, if_neg (by rw [show tt (ValidE (.node k m t ks)) = false from HP.out]; simp)]
    go_enter Tryd.func12, Tryd.ntmps12
    go_wp2_with (go_at_call 22; obtain ⟨g0, g1⟩ := HB.out _ rfl; refine Calls.mono (HQ.out _ g0 g1) ?_; rintro e w1 ⟨rfl, h⟩; rw [HP.out]; have HB1 := Lib.hid (g1.trans (h.out.1.mono (Nat.le_succ _))); clear g0 g1 h)
    all_goals go_ret
    all_goals exact ⟨by rw [HE.out]; rfl, HB1.out⟩
  · have HE : Hid ((exCnt (.node k m t ks) : Int) = S) := by show _ = _; rw [← HS.out, nodesE, if_pos (show tt (ValidE (.node k m t ks)) = true from HP.out)]
    have HC : Hid (exCnt (.node k m t ks) ≤ 60) := (of_tt HP.out).1
    obtain ⟨z, hz⟩ : ∃ z, 60 - exCnt (.node k m t ks) = z := ⟨_, rfl⟩
    have HZ := Lib.hid hz
    have hz60 : z ≤ 60 := by omega
    clear hz
    go_enter Tryd.func12, Tryd.ntmps12
    go_wp2_with (go_at_call 22; obtain ⟨g0, g1⟩ := HB.out _ rfl; refine Calls.mono (HQ.out _ g0 g1) ?_; rintro e w1 ⟨rfl, h⟩; rw [HP.out]; have HB1 := Lib.hid (g1.trans (h.out.1.mono (Nat.le_succ _))); have hr := h.out.2 HP.out; rw [HZ.out] at hr; have p0 : w1.cell? ⟨W.heap.size + 1, 0, none⟩ = some (.int .i64 z) := hr.cell 0; clear g0 g1 h hr)
    all_goals go_ret
    all_goals refine ⟨?_, HB1.out⟩
    all_goals
      have hx : (60 : Int) - (z : Int) = S := by have a := HE.out; have b := HZ.out; have c := HC.out; omega
      rw [← hx]
      rfl

set_option maxRecDepth 100000 in
theorem impl_ValidExpr_any (d : Nat) (x : Ex) (A : Option Addr) (n c : Nat) (W : World) (hv : ExV W 0 W.heap.size d x A n) (hT : Classes W) :
    Calls Tryd.prog 9 #[x.ag A n c] W fun e w' => e = .returned (.bool (tt (ValidE x))) ∧ Below W.heap.size W w' := by
  have HQ := Lib.hid (fun X (hb : Below W.heap.size W X) => impl_ExprNodes_any d x A n c X (hv.go hb) (classes_go hT hb))
  clear hv hT
  have HBX := Lib.hid (fun X => box_ex x A n c W X 29)
  obtain ⟨S, hS⟩ : ∃ S, nodesE x = S := ⟨_, rfl⟩
  have HS := Lib.hid hS
  clear hS
  obtain ⟨P, hP⟩ : ∃ P, tt (ValidE x) = P := ⟨_, rfl⟩
  have HP := Lib.hid hP
  rw [hP]
  clear hP
  cases P
  · have hd : decide (0 < S) = false := by have h := HS.out; rw [nodesE, if_neg (by rw [HP.out]; simp)] at h; rw [← h]; rfl
    go_enter Tryd.func9, Tryd.ntmps9
    go_wp2_with (go_at_call 12; obtain ⟨g0, g1, g2⟩ := HBX.out _ rfl; refine Calls.mono (HQ.out _ g1) ?_; rintro e w1 ⟨rfl, hb⟩; rw [HS.out]; have HB1 := Lib.hid (g1.trans (hb.mono g1.size)); clear g0 g1 g2 hb)
    all_goals go_ret
    all_goals exact ⟨rfl, HB1.out⟩
  · have hd : decide (0 < S) = true := by have h := HS.out; rw [nodesE, if_pos HP.out] at h; rw [← h]; have := exCnt_pos x; simp; omega
    go_enter Tryd.func9, Tryd.ntmps9
    go_wp2_with (go_at_call 12; obtain ⟨g0, g1, g2⟩ := HBX.out _ rfl; refine Calls.mono (HQ.out _ g1) ?_; rintro e w1 ⟨rfl, hb⟩; rw [HS.out]; have HB1 := Lib.hid (g1.trans (hb.mono g1.size)); clear g0 g1 g2 hb)
    all_goals go_ret
    all_goals exact ⟨rfl, HB1.out⟩
end Go.Proofs.YtjmiobmfphkdeaaDoor
