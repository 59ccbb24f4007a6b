/- Contracts: l11Valid, ValidPattern of the model. No condition. -/
import Derived.Test.YtjeiiljdhnmofaaDoorPtSpecN
namespace Go.Proofs.YtjeiiljdhnmofaaDoor
open Go Go.RowKit

theorem box_pt (x : Pt) (A : Option Addr) (n c : Nat) (W X : World) (T : TypeId) (e : X = W.alloc (.cells #[.int .i64 x.k, .int .i64 x.n, .string x.t, .slice A n c] T)) : RW T X W.heap.size #[.int .i64 x.k, .int .i64 x.n, .string x.t, .slice A n c] ∧ Below W.heap.size W X ∧ W.heap.size < X.heap.size := by
  subst e
  exact ⟨RW.new _ _ _, below_alloc _ _, lt_alloc _ _⟩

open Classical in
/-- What l11Valid answers. -/
noncomputable def validN (x : Pt) (L : Int) : Int := if (ptCnt x : Int) ≤ L ∧ ptAll x then (ptCnt x : Int) else -1
/-- Its contract at trees of depth at most d. -/
def ValidAt (d : Nat) : Prop := ∀ (x : Pt) (A : Option Addr) (n c : Nat) (L : Int) (W : World), x.t.size ≤ maxLen → PtD W 0 W.heap.size d A n x.kids → 0 ≤ L → L ≤ 60 →
  Calls Tryd.prog 42 #[x.ag A n c, .int .i64 L] W fun e w' => e = .returned (.int .i64 (validN x L)) ∧ Below W.heap.size W w'

set_option maxHeartbeats 4000000 in
set_option maxRecDepth 100000 in
theorem valid_step (d : Nat) (x : Pt) (A : Option Addr) (n c : Nat) (L : Int) (W : World) (ih : 0 < n → ValidAt d) (ht : x.t.size ≤ maxLen) (hd : PtD W 0 W.heap.size (d + 1) A n x.kids) (h0 : 0 ≤ L) (h6 : L ≤ 60) :
    Calls Tryd.prog 42 #[x.ag A n c, .int .i64 L] W fun e w' => e = .returned (.int .i64 (validN x L)) ∧ Below W.heap.size W w' := by
  obtain ⟨k, m, t, ks⟩ := x
  change t.size ≤ maxLen at ht
  change PtD W 0 W.heap.size (d + 1) A n ks at hd
  have HPR := Lib.hid (fun X => l11Node_any k m t ks A n c X ht hd.1 hd.2.1)
  have HD := Lib.hid hd
  have HIH := Lib.hid ih
  have HN := Lib.hid hd.1
  have hn := hd.2.1
  have HBX := Lib.hid (fun X => box_pt (.node k m t ks) A n c W X 29)
  unfold maxLen at hn
  obtain ⟨V, hV⟩ : ∃ V, (Pt.node k m t ks).proper = V := ⟨_, rfl⟩
  have HV := Lib.hid hV
  obtain ⟨S, hS⟩ : ∃ S, validN (.node k m t ks) L = S := ⟨_, rfl⟩
  rw [hS]
  have HSY : Hid ((1 + (pcntK ks n : Int) ≤ L ∧ V = true ∧ ∀ (j : Nat) (y : Pt), ks[j]? = some y → ptAll y) → S = 1 + (pcntK ks n : Int)) := by
    show _ → _
    rintro ⟨h1, h2, h3⟩
    rw [← hS, validN, ptAll, ptCnt, ptCnts_eq, HN.out, if_pos ⟨by push_cast; exact h1, by rw [hV]; exact h2, (ptAlls_iff ks).2 h3⟩]
    push_cast
    rfl
  have HSN : Hid (¬ (1 + (pcntK ks n : Int) ≤ L ∧ V = true ∧ ∀ (j : Nat) (y : Pt), ks[j]? = some y → ptAll y) → S = -1) := by
    show _ → _
    intro h
    rw [← hS, validN, ptAll, ptCnt, ptCnts_eq, HN.out, if_neg (fun g => h ⟨by have := g.1; push_cast at this; exact this, by rw [← hV]; exact g.2.1, (ptAlls_iff ks).1 g.2.2⟩)]
  clear ht hd ih hV hS
  show Calls Tryd.prog 42 #[.agg #[.int .i64 k, .int .i64 m, .string t, .slice A n c], .int .i64 L] W _
  by_cases hL : L < 1
  · have dL : decide (L < 1) = true := by simp; exact hL
    have HF : Hid (S = -1) := HSN.out (fun h => by have := h.1; omega)
    have HB0 := Lib.hid (fun X hX => (HBX.out X hX).2.1)
    go_enter Tryd.func42, Tryd.ntmps42
    go_wp2_with fail
    go_ret
    exact ⟨by rw [HF.out]; rfl, HB0.out _ rfl⟩
  · have dL : decide (L < 1) = false := by simp; omega
    cases V
    · have HF : Hid (S = -1) := HSN.out (fun h => by cases h.2.1)
      go_enter Tryd.func42, Tryd.ntmps42
      go_wp2_with (go_at_call 48; obtain ⟨g0, g1, g2⟩ := HBX.out _ rfl; refine Calls.mono (HPR.out _) ?_; rintro e w1 ⟨rfl, hb⟩; rw [HV.out]; have HB1 := Lib.hid (g1.trans (hb.mono (Nat.le_of_lt g2))); clear g0 g1 g2 hb)
      go_ret
      exact ⟨by rw [HF.out]; rfl, HB1.out⟩
    · go_enter Tryd.func42, Tryd.ntmps42
      go_wp2_with (go_at_call 48; obtain ⟨g0, g1, g2⟩ := HBX.out _ rfl; refine Calls.mono (HPR.out _) ?_; rintro e w1 ⟨rfl, hb⟩; rw [HV.out]; have HB1 := Lib.hid (g1.trans (hb.mono (Nat.le_of_lt g2))); have HR1 := Lib.hid (g0.below hb g2); clear g0 g1 g2 hb)
      go_loopw [5, 6] (fun q i wr => ∃ k' : Nat, ∃ s : Int, k' ≤ n ∧ i = .int .i64 k' ∧ q = .int .i64 s ∧ 1 ≤ s ∧ s ≤ L ∧ Hid (s = 1 + (pcntK ks k' : Int)) ∧ Hid (RW 29 wr W.heap.size #[.int .i64 k, .int .i64 m, .string t, .slice A n c]) ∧ Hid (Below W.heap.size W wr) ∧ Hid (∀ (j : Nat) (y : Pt), j < k' → ks[j]? = some y → ptAll y)) (fun _ i _ => n - (intOf i).toNat)
      case atStart => exact ⟨0, 1, Nat.zero_le _, rfl, rfl, by omega, by omega, by show _ = _; simp [pcntK], HR1, HB1, Lib.hid (fun j y hj => absurd hj (by omega))⟩
      case round =>
        obtain ⟨k', s, hk, rfl, rfl, hs1, hs2, HZ, HR, HW, HA⟩ := hrel
        have r3 : wr.cell? ⟨W.heap.size, 3, none⟩ = some (.slice A n c) := HR.out.cell 3
        by_cases hlt : k' < n
        · obtain ⟨b, off, y, A1, n1, c1, rfl, _, hgb, hy, _, ⟨q0, q1, q2, q3⟩, hys, hyk⟩ := (HD.out.go HW.out).at_ hlt
          have HY := Lib.hid hy
          have HNX := Lib.hid (pcntK_next hy)
          have b0 : (0 : Int) ≤ (k' : Int) := by omega
          have b1 : (k' : Int) < (n : Int) := by omega
          have HM := Lib.hid (pcntK_mono (xs := ks) (show k' + 1 ≤ n by omega))
          have HI := Lib.hid (HIH.out (by omega) y A1 n1 c1 (L - s) wr hys hyk (by omega) (by omega))
          obtain ⟨yk, yn, yt, yks⟩ := y
          change wr.cell? ⟨b, off + k' * 4, none⟩ = some (.int .i64 yk) at q0
          change wr.cell? ⟨b, off + k' * 4 + 1, none⟩ = some (.int .i64 yn) at q1
          change wr.cell? ⟨b, off + k' * 4 + 2, none⟩ = some (.string yt) at q2
          obtain ⟨u, hu⟩ : ∃ u, validN (.node yk yn yt yks) (L - s) = u := ⟨_, rfl⟩
          have HU := Lib.hid hu
          clear hy hys hyk hgb hu
          by_cases hF : (ptCnt (.node yk yn yt yks) : Int) ≤ L - s ∧ ptAll (.node yk yn yt yks)
          · have HUE : Hid (u = (ptCnt (.node yk yn yt yks) : Int)) := by show _ = _; rw [← HU.out, validN, if_pos hF]
            have HF := Lib.hid hF
            have u0 : decide (u < 0) = false := by have := HUE.out; simp; omega
            have u1 : 0 ≤ u := by have := HUE.out; omega
            have u2 : u ≤ L - s := by have := HUE.out; have := hF.1; omega
            have HSS : Hid (∀ (j : Nat) (y : Pt), j < k' + 1 → ks[j]? = some y → ptAll y) := by
              intro j w hj hw
              by_cases e : j = k'
              · rw [e, HY.out, Option.some.injEq] at hw
                rw [← hw]
                exact HF.out.2
              · exact HA.out j w (by omega) hw
            clear hF
            go_wp2_with (go_at_call 42; refine Calls.mono HI.out ?_; rintro e w3 ⟨rfl, hb⟩; rw [HU.out]; have HR3 := Lib.hid (HR.out.below hb HR.out.lt); have HW3 := Lib.hid (HW.out.trans (hb.mono HW.out.size)); clear hb)
            go_roundw
            case rel => exact ⟨k' + 1, s + u, by omega, by go_num, by first | rfl | go_num, by omega, by omega, by have a := HZ.out; have b := HNX.out; have c := HUE.out; show _ = _; rw [b]; push_cast; omega, HR3, HW3, HSS⟩
            case measure => simp [intOf]; omega
          · have HUE : Hid (u = -1) := by show _ = _; rw [← HU.out, validN, if_neg hF]
            have u0 : decide (u < 0) = true := by have := HUE.out; simp; omega
            have HF : Hid (S = -1) := HSN.out (fun h => hF ⟨by have a := HZ.out; have b := HNX.out; have c := HM.out; have d := h.1; omega, h.2.2 k' _ HY.out⟩)
            clear hF
            go_wp2_with (go_at_call 42; refine Calls.mono HI.out ?_; rintro e w3 ⟨rfl, hb⟩; rw [HU.out]; have HW3 := Lib.hid (HW.out.trans (hb.mono HW.out.size)); clear hb)
            go_ret
            exact ⟨by rw [HF.out]; rfl, HW3.out⟩
        · have hkn : k' = n := by omega
          have HT : Hid (S = s) := by
            have e := HZ.out
            rw [hkn] at e
            show _ = _
            rw [e]
            exact HSY.out ⟨by omega, by first | trivial | rfl, fun j y hy => HA.out j y (by have := (List.getElem?_eq_some_iff.1 hy).1; have := HN.out; omega) hy⟩
          clear hkn
          go_wp2_with fail
          go_ret
          exact ⟨by rw [HT.out]; rfl, HW.out⟩

theorem l11Valid_all : ∀ d, ValidAt d
  | 0 => fun x A n c L W ht hd h0 h6 => valid_step 0 x A n c L W (fun h => absurd h (by have := hd.2; omega)) ht hd.deeper h0 h6
  | d + 1 => fun x A n c L W ht hd h0 h6 => valid_step d x A n c L W (fun _ => l11Valid_all d) ht hd h0 h6

set_option maxRecDepth 100000 in
theorem spec_ValidPattern_any (d : Nat) (x : Pt) (A : Option Addr) (n c : Nat) (W : World) (hv : PtV W 0 W.heap.size d x A n) :
    Calls Tryd.prog 11 #[x.ag A n c] W fun e w' => e = .returned (.bool (tt (ValidP x))) ∧ Below W.heap.size W w' := by
  have HBX := Lib.hid (fun X => box_pt x A n c W X 29)
  have HQ := Lib.hid (fun X (hb : Below W.heap.size W X) => l11Valid_all d x A n c 60 X hv.1 (hv.2.go hb) (by decide) (by decide))
  clear hv
  obtain ⟨u, hu⟩ : ∃ u, validN x 60 = u := ⟨_, rfl⟩
  have HU := Lib.hid hu
  obtain ⟨P, hP⟩ : ∃ P, tt (ValidP x) = P := ⟨_, rfl⟩
  rw [hP]
  have hd : decide (0 < u) = P := by
    rw [← hP, ← hu, validN]
    by_cases h : ValidP x
    · rw [if_pos ⟨by have := h.1; omega, h.2⟩, tt_true h]
      have := ptCnt_pos x
      simp
      omega
    · rw [if_neg (fun g => h ⟨by have := g.1; omega, g.2⟩), tt_false h]
      rfl
  clear hu hP
  cases P
  all_goals
    go_enter Tryd.func11, Tryd.ntmps11
    go_wp2_with (go_at_call 42; obtain ⟨g0, g1, g2⟩ := HBX.out _ rfl; refine Calls.mono (HQ.out _ g1) ?_; rintro e w1 ⟨rfl, hb⟩; rw [HU.out]; have HB1 := Lib.hid (g1.trans (hb.mono g1.size)); clear g0 g1 g2 hb)
    all_goals go_ret
    all_goals exact ⟨rfl, HB1.out⟩
end Go.Proofs.YtjeiiljdhnmofaaDoor
