/- Contract: l11Chain of the model. No condition. -/
import Derived.Test.YtjeiiljdhnmofaaDoorChain
namespace Go.Proofs.YtjeiiljdhnmofaaDoor
open Go Go.RowKit

/-- The two boxes. -/
def ChBox (W : World) (ν : Int) (w : World) : Prop :=
  RW 29 w W.heap.size #[.int .i64 ν, .int .i64 0, .string ⟨#[]⟩, .slice none 0 0] ∧ RW 29 w (W.heap.size + 1) #[.int .i64 0, .int .i64 0, .string ⟨#[]⟩, .slice none 0 0] ∧ Below W.heap.size W w
theorem ChBox.grow {W w w' : World} {ν : Int} (h : ChBox W ν w) (hb : Below w.heap.size w w') : ChBox W ν w' := ⟨h.1.below hb h.1.lt, h.2.1.below hb h.2.1.lt, h.2.2.trans (hb.mono h.2.2.size)⟩
/-- The chain so far lies in its box q. -/
def ChOut (W : World) (ν : Int) (D q : Nat) (y : Pt) (A : Option Addr) (n c : Nat) (w : World) : Prop :=
  ChBox W ν w ∧ RW 29 w q #[.int .i64 y.k, .int .i64 y.n, .string y.t, .slice A n c] ∧ (y.t.size ≤ maxLen ∧ PtN w (fun i => i < W.heap.size + 2 ∨ i = q) D A n y.kids) ∧ n ≤ c ∧ W.heap.size + 1 < q
theorem ChOut.grow {W w w' : World} {ν : Int} {D q n c : Nat} {y : Pt} {A : Option Addr} (h : ChOut W ν D q y A n c w) (hb : Below w.heap.size w w') : ChOut W ν D q y A n c w' := ⟨h.1.grow hb, h.2.1.below hb h.2.1.lt, ⟨h.2.2.1.1, h.2.2.1.2.below hb⟩, h.2.2.2⟩
theorem l00Max_n (n : Nat) (W : World) : Calls Tryd.prog 79 #[.int .i64 ((n : Int) - 1), .int .i64 0] W fun e w' => e = .returned (.int .i64 ((n - 1 : Nat) : Int)) ∧ w' = W := by
  obtain ⟨a, ha⟩ : ∃ a, (n : Int) - 1 = a := ⟨_, rfl⟩
  rw [ha]
  by_cases h : 0 < a
  · have d : decide (0 < a) = true := by simp [h]
    have e : ((n - 1 : Nat) : Int) = a := by omega
    rw [e]
    clear ha e
    go_enter Tryd.func79, Tryd.ntmps79
    go_wp2_with fail
    go_ret
    exact ⟨rfl, rfl⟩
  · have d : decide (0 < a) = false := by simp; omega
    have e : ((n - 1 : Nat) : Int) = 0 := by omega
    rw [e]
    clear ha e
    go_enter Tryd.func79, Tryd.ntmps79
    go_wp2_with fail
    go_ret
    exact ⟨rfl, rfl⟩
theorem zero_ret {W w : World} {ν : Int} {D : Nat} (h : ChBox W ν w) (v : Value) (w' : World) (hw : Below W.heap.size W w') (hv : v = .tuple #[.agg #[.int .i64 0, .int .i64 0, .string ⟨#[]⟩, .slice none 0 0], .bool false]) : RetCh D (.node 0 0 ⟨#[]⟩ []) false W (.returned v) w' := by
  subst hv
  refine ⟨none, 0, 0, Nat.le_refl _, rfl, Lib.hid ⟨⟨Nat.zero_le _, ?_⟩, hw⟩⟩
  cases D with
  | zero => exact ⟨rfl, rfl⟩
  | succ D => exact ⟨rfl, Nat.zero_le _, fun h => absurd h (by omega)⟩

set_option maxHeartbeats 4000000 in
set_option maxRecDepth 100000 in
theorem spec_chain_any (κ ν : Int) (hκ : κ = 18 ∨ κ = 19) (hν : ν = 1 ∨ ν = 16) (d : Nat) (A : Option Addr) (n c : Nat) (xs : List Pt) (W : World) (hd : PtD W 0 W.heap.size (d + 1) A n xs) :
    Calls Tryd.prog 64 #[.slice A n c, .int .i64 κ, .agg #[.int .i64 ν, .int .i64 0, .string ⟨#[]⟩, .slice none 0 0]] W (RetCh (d + n) (chA κ ν xs) (tt (ValidP (chP κ ν xs))) W) := by
  have HD := Lib.hid hd
  have HL := Lib.hid hd.1
  have hnm := hd.2.1
  unfold maxLen at hnm
  have HVA := Lib.hid (chP_valid hκ hν xs)
  have HCE : Hid (ptCnts xs = pcntK xs n) := by show _ = _; rw [ptCnts_eq, hd.1]
  have HKE := Lib.hid hκ
  obtain ⟨P, hP⟩ : ∃ P, tt (ValidP (chP κ ν xs)) = P := ⟨_, rfl⟩
  have HP := Lib.hid hP
  obtain ⟨Z, hZ⟩ : ∃ Z, chA κ ν xs = Z := ⟨_, rfl⟩
  have HZ := Lib.hid hZ
  rw [hP, hZ]
  have HNO : Hid (¬ ValidP (chP κ ν xs) → P = false ∧ Z = .node 0 0 ⟨#[]⟩ []) := by
    show _ → _
    intro h
    rw [← hP, ← hZ, chA, if_neg h]
    exact ⟨tt_false h, rfl⟩
  have HYES : Hid (ValidP (chP κ ν xs) → P = true ∧ Z = chP κ ν xs) := by
    show _ → _
    intro h
    rw [← hP, ← hZ, chA, if_pos h]
    exact ⟨tt_true h, rfl⟩
  clear hd hP hZ hκ hν
  have HBX := Lib.hid (fun X (e : X = (W.alloc (.cells #[.int .i64 ν, .int .i64 0, .string ⟨#[]⟩, .slice none 0 0] 29)).alloc (.cells #[.int .i64 0, .int .i64 0, .string ⟨#[]⟩, .slice none 0 0] 29)) => (show ChBox W ν X from by obtain ⟨h0, h1, h2, _⟩ := two_new W 29 _ _ X e; exact ⟨h0, h1, h2⟩))
  by_cases h60 : n ≤ 60
  · have d0 : decide (60 < (n : Int)) = false := by simp; omega
    go_enter Tryd.func64, Tryd.ntmps64
    go_wp2_with (go_at_call 79; refine Calls.mono (l00Max_n n _) ?_; rintro e w1 ⟨rfl, rfl⟩)
    go_loopw [8, 9] (fun a i wr => ∃ j : Nat, j ≤ n ∧ i = .int .i64 j ∧ a = .int .i64 ((n - 1 + pcntK xs j : Nat) : Int) ∧ pcntK xs j ≤ 60 * j ∧ Hid (ChBox W ν wr) ∧ Hid (∀ (i : Nat) (x : Pt), i < j → xs[i]? = some x → ptAll x)) (fun _ i _ => n - (intOf i).toNat)
    case atStart => exact ⟨0, Nat.zero_le _, rfl, rfl, Nat.zero_le _, HBX.out _ rfl, fun i x hi => absurd hi (by omega)⟩
    case round =>
      obtain ⟨j, hj, rfl, rfl, hpj, HBB, HALL⟩ := hrel
      have s0 : wr.cell? ⟨W.heap.size + 1, 0, none⟩ = some (.int .i64 0) := HBB.out.2.1.cell 0
      have s1 : wr.cell? ⟨W.heap.size + 1, 1, none⟩ = some (.int .i64 0) := HBB.out.2.1.cell 1
      have s2 : wr.cell? ⟨W.heap.size + 1, 2, none⟩ = some (.string ⟨#[]⟩) := HBB.out.2.1.cell 2
      have s3 : wr.cell? ⟨W.heap.size + 1, 3, none⟩ = some (.slice none 0 0) := HBB.out.2.1.cell 3
      have f0 := HBB.out.2.1.frozen 0
      have f1 := HBB.out.2.1.frozen 1
      have f2 := HBB.out.2.1.frozen 2
      have f3 := HBB.out.2.1.frozen 3
      by_cases hlt : j < n
      · obtain ⟨b, off, x, A1, n1, c1, rfl, _, hgb, hx, _, ⟨q0, q1, q2, q3⟩, hxt, hxd⟩ := (HD.out.go HBB.out.2.2).at_ hlt
        have HX := Lib.hid hx
        have HNX := Lib.hid (pcntK_next hx)
        have b0 : (0 : Int) ≤ (j : Int) := by omega
        have b1 : (j : Int) < (n : Int) := by omega
        have HVP := Lib.hid (l11Valid_all d x A1 n1 c1 60 wr hxt hxd (by decide) (by decide))
        have HMO := Lib.hid (pcntK_mono (xs := xs) (show j + 1 ≤ n by omega))
        by_cases hv : (ptCnt x : Int) ≤ 60 ∧ ptAll x
        · have e : validN x 60 = (ptCnt x : Int) := by rw [validN, if_pos hv]
          rw [e] at HVP
          have du : decide ((ptCnt x : Int) < 0) = false := by simp
          have hc60 : ptCnt x ≤ 60 := by have := hv.1; omega
          have HPA := Lib.hid hv.2
          obtain ⟨u, hu⟩ : ∃ u, ptCnt x = u := ⟨_, rfl⟩
          rw [hu] at HVP HNX du hc60
          obtain ⟨ac, hac⟩ : ∃ ac, n - 1 + pcntK xs j = ac := ⟨_, rfl⟩
          have HAC := Lib.hid hac
          have hac2 : ac ≤ 60 + 60 * 60 := by omega
          rw [hac]
          obtain ⟨xk, xm, xt, xks⟩ := x
          clear hx hxt hxd hv e hu hac hgb s0 s1 s2 s3 f0 f1 f2 f3
          go_wp2_with (go_at_call 42; refine Calls.mono HVP.out ?_; rintro e w1 ⟨rfl, hb⟩; have HB1 := Lib.hid (HBB.out.grow hb); clear hb)
          go_roundw
          case rel =>
            refine ⟨j + 1, by omega, by go_num, ?_, by have := HNX.out; omega, HB1, fun i y hi hy => ?_⟩
            · have e1 := HNX.out
              have e2 := HAC.out
              congr 2
              omega
            · by_cases e : i = j
              · subst e
                rw [HX.out, Option.some.injEq] at hy
                rw [← hy]
                exact HPA.out
              · exact HALL.out i y (by omega) hy
          case measure => simp [intOf]; omega
        · have e : validN x 60 = -1 := by rw [validN, if_neg hv]
          rw [e] at HVP
          obtain ⟨rfl, rfl⟩ := HNO.out (fun h => by
            obtain ⟨h1, h2⟩ := HVA.out.1 h
            rw [HCE.out] at h1
            have h3 := (ptAlls_iff xs).1 h2 j x hx
            have h4 := HNX.out
            have h5 := HMO.out
            exact hv ⟨by omega, h3⟩)
          obtain ⟨xk, xm, xt, xks⟩ := x
          clear hx hxt hxd hv e hgb s0 s1 s2 s3 f0 f1 f2 f3
          go_wp2_with (go_at_call 42; refine Calls.mono HVP.out ?_; rintro e w1 ⟨rfl, hb⟩; have HB1 := Lib.hid (HBB.out.grow hb); have s0 : w1.cell? ⟨W.heap.size + 1, 0, none⟩ = some (.int .i64 0) := HB1.out.2.1.cell 0; have s1 : w1.cell? ⟨W.heap.size + 1, 1, none⟩ = some (.int .i64 0) := HB1.out.2.1.cell 1; have s2 : w1.cell? ⟨W.heap.size + 1, 2, none⟩ = some (.string ⟨#[]⟩) := HB1.out.2.1.cell 2; have s3 : w1.cell? ⟨W.heap.size + 1, 3, none⟩ = some (.slice none 0 0) := HB1.out.2.1.cell 3; have f0 := HB1.out.2.1.frozen 0; have f1 := HB1.out.2.1.frozen 1; have f2 := HB1.out.2.1.frozen 2; have f3 := HB1.out.2.1.frozen 3; clear hb)
          exact bodyPost_ret (v := .tuple #[.agg #[.int .i64 0, .int .i64 0, .string ⟨#[]⟩, .slice none 0 0], .bool false]) (by rw [results_cell_tmp rfl]; go_simp) rfl (zero_ret HB1.out _ _ (by repeat (first | exact HB1.out.2.2 | refine Below.setCell ?_ (by first | (simp; done) | (simp; omega)) _)) rfl)
      · obtain rfl : j = n := by omega
        have HB1 := HBB
        have HPN := Lib.hid hpj
        by_cases hsum : j - 1 + pcntK xs j ≤ 60
        · have dd : decide (60 < ((j - 1 + pcntK xs j : Nat) : Int)) = false := by simp; omega
          obtain ⟨rfl, rfl⟩ := HYES.out (HVA.out.2 ⟨by rw [HCE.out, HL.out]; omega, (ptAlls_iff xs).2 (fun i x hx => HALL.out i x (by rw [← HL.out]; exact (List.getElem?_eq_some_iff.1 hx).1) hx)⟩)
          rcases Nat.eq_zero_or_pos j with hj0 | hj0
          · subst hj0
            obtain rfl : xs = [] := List.eq_nil_of_length_eq_zero HL.out
            have p0 : wr.cell? ⟨W.heap.size, 0, none⟩ = some (.int .i64 ν) := HBB.out.1.cell 0
            have p1 : wr.cell? ⟨W.heap.size, 1, none⟩ = some (.int .i64 0) := HBB.out.1.cell 1
            have p2 : wr.cell? ⟨W.heap.size, 2, none⟩ = some (.string ⟨#[]⟩) := HBB.out.1.cell 2
            have p3 : wr.cell? ⟨W.heap.size, 3, none⟩ = some (.slice none 0 0) := HBB.out.1.cell 3
            obtain ⟨ac, hac⟩ : ∃ ac, 0 - 1 + pcntK ([] : List Pt) 0 = ac := ⟨_, rfl⟩
            rw [hac] at dd ⊢
            clear hac hsum
            go_wp2_with fail
            refine bodyPost_ret (v := .tuple #[.agg #[.int .i64 ν, .int .i64 0, .string ⟨#[]⟩, .slice none 0 0], .bool true]) (by rw [results_cell_tmp rfl]; go_simp) rfl ⟨none, 0, 0, Nat.le_refl _, rfl, Lib.hid ⟨⟨Nat.zero_le _, ?_⟩, (by repeat (first | exact HB1.out.2.2 | refine Below.setCell ?_ (by first | (simp; done) | (simp; omega)) _))⟩⟩
            cases d with
            | zero => exact ⟨rfl, rfl⟩
            | succ d => exact ⟨rfl, Nat.zero_le _, fun h => absurd h (by omega)⟩
          · obtain ⟨p, rfl⟩ : ∃ p, j = p + 1 := ⟨j - 1, by omega⟩
            have hsz : pcntK xs (p + 1) ≤ 60 := by omega
            have HS6 := Lib.hid hsz
            obtain ⟨b, off, x, A1, n1, c1, rfl, _, hgb, hx, hnc1, ⟨q0, q1, q2, q3⟩, hxt, hxd⟩ := (HD.out.go HBB.out.2.2).at_ (show p < p + 1 by omega)
            have hc1 : ptCnt x ≤ 1000 := by have := pcntK_next hx; omega
            have HX := Lib.hid hx
            have HXT := Lib.hid hxt
            have HCP := Lib.hid (copy_any d x A1 n1 c1 wr hxt hnc1 hxd hc1)
            obtain ⟨ac, hac⟩ : ∃ ac, p + 1 - 1 + pcntK xs (p + 1) = ac := ⟨_, rfl⟩
            rw [hac] at dd ⊢
            have e1 : ((p + 1 : Nat) : Int) - 1 = (p : Int) := by omega
            have e2 : ((p + 1 : Nat) : Int) - 2 = (p : Int) - 1 := by omega
            have en : (((p + 1 : Nat) : Int) == 0) = false := by simp; omega
            have b0 : (0 : Int) ≤ (p : Int) := by omega
            have b1 : (p : Int) < ((p + 1 : Nat) : Int) := by omega
            obtain ⟨xk, xm, xt, xks⟩ := x
            clear hac hsum hx hxt hxd hc1 hgb hnc1 s0 s1 s2 s3 f0 f1 f2 f3
            go_wp2_with (go_at_call 60; refine Calls.mono HCP.out ?_; rintro e w1 ⟨A', c', hnc2, he, h⟩; obtain rfl : e = .returned (.agg #[.int .i64 xk, .int .i64 xm, .string xt, .slice A' n1 c']) := he; have HNC2 := Lib.hid hnc2; have HV := h; clear h hnc2)
            obtain ⟨q, hq⟩ : ∃ q, w1.heap.size = q := ⟨_, rfl⟩
            have HO1 : Hid (ChOut W ν (d + 1) q (.node xk xm xt xks) A' n1 c' (w1.alloc (.cells #[.int .i64 xk, .int .i64 xm, .string xt, .slice A' n1 c'] 29))) := by
              have hr := RW.new w1 #[.int .i64 xk, .int .i64 xm, .string xt, .slice A' n1 c'] 29
              rw [hq] at hr
              refine ⟨(HBB.out.grow HV.out.2).grow (below_alloc _ _), hr, ⟨HXT.out, ?_⟩, HNC2.out, ?_⟩
              · exact ((HV.out.1.2.away (S := fun i => i < W.heap.size + 2 ∨ i = q) (fun b hb1 hb2 hs => by have := HBB.out.2.1.lt; omega) (Nat.le_refl _)).below (below_alloc _ _)).up
              · have := HBB.out.2.1.lt
                have := HV.out.2.size
                omega
            have HY1 : Hid (Pt.node xk xm xt xks = chP κ ν (xs.drop p)) := (chP_last HX.out HL.out.symm).symm
            rw [hq]
            clear hq q0 q1 q2 q3 HV HCP e1 e2 en dd b0 b1
            generalize w1.alloc (.cells #[.int .i64 xk, .int .i64 xm, .string xt, .slice A' n1 c'] 29) = w2 at HO1 ⊢
            go_loopw [12] (fun i wr => ∃ (r : Nat) (z : Int) (y : Pt) (A' : Option Addr) (n' c' : Nat), r ≤ p ∧ i = .int .i64 z ∧ z = (r : Int) - 1 ∧ Hid (y = chP κ ν (xs.drop r)) ∧ Hid (ChOut W ν (d + (p + 1 - r)) q y A' n' c' wr)) (fun i _ => (intOf i + 1).toNat)
            case atStart => exact ⟨p, _, _, _, _, _, Nat.le_refl _, rfl, by omega, HY1, by rw [show d + (p + 1 - p) = d + 1 from by omega]; exact HO1⟩
            case round =>
              obtain ⟨r, z, y, A2, n2, c2, hrp, rfl, hz, HY, HO⟩ := hrel
              have o0 : wr.cell? ⟨q, 0, none⟩ = some (.int .i64 y.k) := HO.out.2.1.cell 0
              have o1 : wr.cell? ⟨q, 1, none⟩ = some (.int .i64 y.n) := HO.out.2.1.cell 1
              have o2 : wr.cell? ⟨q, 2, none⟩ = some (.string y.t) := HO.out.2.1.cell 2
              have o3 : wr.cell? ⟨q, 3, none⟩ = some (.slice A2 n2 c2) := HO.out.2.1.cell 3
              rcases r with _ | r
              · obtain rfl : z = -1 := by omega
                have HB1 := Lib.hid HO.out.1
                have s0 : wr.cell? ⟨W.heap.size + 1, 0, none⟩ = some (.int .i64 0) := HB1.out.2.1.cell 0
                have s1 : wr.cell? ⟨W.heap.size + 1, 1, none⟩ = some (.int .i64 0) := HB1.out.2.1.cell 1
                have s2 : wr.cell? ⟨W.heap.size + 1, 2, none⟩ = some (.string ⟨#[]⟩) := HB1.out.2.1.cell 2
                have s3 : wr.cell? ⟨W.heap.size + 1, 3, none⟩ = some (.slice none 0 0) := HB1.out.2.1.cell 3
                have f0 := HB1.out.2.1.frozen 0
                have f1 := HB1.out.2.1.frozen 1
                have f2 := HB1.out.2.1.frozen 2
                have f3 := HB1.out.2.1.frozen 3
                have hye : y = chP κ ν xs := HY.out
                have HYE := Lib.hid hye
                clear hye hz
                obtain ⟨yk, ym, yt, yks⟩ := y
                change wr.cell? ⟨q, 0, none⟩ = some (.int .i64 yk) at o0
                change wr.cell? ⟨q, 1, none⟩ = some (.int .i64 ym) at o1
                change wr.cell? ⟨q, 2, none⟩ = some (.string yt) at o2
                go_wp2_with fail
                refine bodyPost_ret (v := .tuple #[.agg #[.int .i64 yk, .int .i64 ym, .string yt, .slice A2 n2 c2], .bool true]) (by rw [results_cell_tmp rfl]; go_simp) rfl ?_
                rw [← HYE.out]
                refine ⟨A2, n2, c2, HO.out.2.2.2.1, rfl, Lib.hid ⟨⟨HO.out.2.2.1.1, ?_⟩, (by repeat (first | exact HB1.out.2.2 | refine Below.setCell ?_ (by first | (simp; done) | (simp; omega)) _))⟩⟩
                exact ((((HO.out.2.2.1.2.set (a := ⟨W.heap.size + 1, 0, none⟩) (.inl (by simp)) _).set (a := ⟨W.heap.size + 1, 1, none⟩) (.inl (by simp)) _).set (a := ⟨W.heap.size + 1, 2, none⟩) (.inl (by simp)) _).set (a := ⟨W.heap.size + 1, 3, none⟩) (.inl (by simp)) _).treeLo (fun b hb => by have : ¬ (b < W.heap.size + 2 ∨ b = q) := hb; omega)
              · obtain rfl : z = (r : Int) := by omega
                obtain ⟨b2, off2, u, A1, n1, c1, hAe, _, hgb, hu, hnc1, ⟨q0, q1, q2, q3⟩, hut, hud⟩ := (HD.out.go HO.out.1.2.2).at_ (show r < p + 1 by omega)
                simp only [Option.some.injEq, Addr.mk.injEq, and_true] at hAe
                obtain ⟨rfl, rfl⟩ := hAe
                have hc1 : ptCnt u ≤ 1000 := by
                  have h1 := pcntK_next hu
                  have h2 := pcntK_mono (xs := xs) (show r + 1 ≤ p + 1 by omega)
                  have h3 := HS6.out
                  omega
                have HU := Lib.hid hu
                have HUT := Lib.hid hut
                have HREC := Lib.hid (fun w (hb : Below wr.heap.size wr w) => copy_any d u A1 n1 c1 w hut hnc1 (hud.go hb) hc1)
                have b0 : (0 : Int) ≤ (r : Int) := by omega
                have b1 : (r : Int) < (p : Int) + 1 := by omega
                have HRP : Hid (r + 1 ≤ p) := hrp
                obtain ⟨yk, ym, yt, yks⟩ := y
                obtain ⟨uk, um, ut, uks⟩ := u
                change wr.cell? ⟨b, off + r * 4, none⟩ = some (.int .i64 uk) at q0
                change wr.cell? ⟨b, off + r * 4 + 1, none⟩ = some (.int .i64 um) at q1
                change wr.cell? ⟨b, off + r * 4 + 2, none⟩ = some (.string ut) at q2
                change wr.cell? ⟨q, 0, none⟩ = some (.int .i64 yk) at o0
                change wr.cell? ⟨q, 1, none⟩ = some (.int .i64 ym) at o1
                change wr.cell? ⟨q, 2, none⟩ = some (.string yt) at o2
                change Hid (∀ w, Below wr.heap.size wr w → Calls Tryd.prog 60 #[.agg #[.int .i64 uk, .int .i64 um, .string ut, .slice A1 n1 c1]] w (ToCo d n1 (.node uk um ut uks) w)) at HREC
                clear hu hut hud hnc1 hc1 hgb hz hrp
                go_wp2_with fail
                go_region_law (first
                  | (go_simp; go_at_call 60; refine Calls.mono (HREC.out _ (Below.refl _ _).drew) ?_; rintro e w3 ⟨A', c', hnc2, he, h⟩; obtain rfl : e = .returned (.agg #[.int .i64 uk, .int .i64 um, .string ut, .slice A' n1 c']) := he; have HNC2 := Lib.hid hnc2; have HV := h; have HO3 : Hid (ChOut W ν (d + (p + 1 - (r + 1))) q (.node yk ym yt yks) A2 n2 c2 w3) := (HO.out.grow (Below.refl _ _).drew).grow h.out.2; have o30 : w3.cell? ⟨q, 0, none⟩ = some (.int .i64 yk) := HO3.out.2.1.cell 0; have o31 : w3.cell? ⟨q, 1, none⟩ = some (.int .i64 ym) := HO3.out.2.1.cell 1; have o32 : w3.cell? ⟨q, 2, none⟩ = some (.string yt) := HO3.out.2.1.cell 2; have o33 : w3.cell? ⟨q, 3, none⟩ = some (.slice A2 n2 c2) := HO3.out.2.1.cell 3; have o40 : ∀ o, (w3.alloc o).cell? ⟨q, 0, none⟩ = some (.int .i64 yk) := (fun o => (HO3.out.2.1.alloc o).cell 0); have o41 : ∀ o, (w3.alloc o).cell? ⟨q, 1, none⟩ = some (.int .i64 ym) := (fun o => (HO3.out.2.1.alloc o).cell 1); have o42 : ∀ o, (w3.alloc o).cell? ⟨q, 2, none⟩ = some (.string yt) := (fun o => (HO3.out.2.1.alloc o).cell 2); have o43 : ∀ o, (w3.alloc o).cell? ⟨q, 3, none⟩ = some (.slice A2 n2 c2) := (fun o => (HO3.out.2.1.alloc o).cell 3); have g40 : ∀ o, (w3.alloc o).frozen? ⟨q, 0, none⟩ = false := (fun o => (HO3.out.2.1.alloc o).frozen 0); have g41 : ∀ o, (w3.alloc o).frozen? ⟨q, 1, none⟩ = false := (fun o => (HO3.out.2.1.alloc o).frozen 1); have g42 : ∀ o, (w3.alloc o).frozen? ⟨q, 2, none⟩ = false := (fun o => (HO3.out.2.1.alloc o).frozen 2); have g43 : ∀ o, (w3.alloc o).frozen? ⟨q, 3, none⟩ = false := (fun o => (HO3.out.2.1.alloc o).frozen 3); clear h hnc2))
                all_goals
                  have HX3 : Hid (q < w3.heap.size) := HO3.out.2.1.lt
                  have HO4 : Hid (ChOut W ν (d + (p + 1 - r)) q (.node κ 0 ⟨#[]⟩ [.node uk um ut uks, .node yk ym yt yks]) (some ⟨w3.heap.size, 0, none⟩) 2 2 (((((w3.alloc (.cells #[.int .i64 uk, .int .i64 um, .string ut, .slice A' n1 c', .int .i64 yk, .int .i64 ym, .string yt, .slice A2 n2 c2] 29)).setCell ⟨q, 0, none⟩ (.int .i64 κ)).setCell ⟨q, 1, none⟩ (.int .i64 0)).setCell ⟨q, 2, none⟩ (.string ⟨#[]⟩)).setCell ⟨q, 3, none⟩ (.slice (some ⟨w3.heap.size, 0, none⟩) 2 2))) := by
                    have ha := HO3.out.grow (below_alloc w3 (.cells #[.int .i64 uk, .int .i64 um, .string ut, .slice A' n1 c', .int .i64 yk, .int .i64 ym, .string yt, .slice A2 n2 c2] 29))
                    have hq1 := ha.2.2.2.2
                    have hx3 := HX3.out
                    refine ⟨⟨(((ha.1.1.other (p := ⟨q, 0, none⟩) (by dsimp only; omega) _).other (p := ⟨q, 1, none⟩) (by dsimp only; omega) _).other (p := ⟨q, 2, none⟩) (by dsimp only; omega) _).other (p := ⟨q, 3, none⟩) (by dsimp only; omega) _, (((ha.1.2.1.other (p := ⟨q, 0, none⟩) (by dsimp only; omega) _).other (p := ⟨q, 1, none⟩) (by dsimp only; omega) _).other (p := ⟨q, 2, none⟩) (by dsimp only; omega) _).other (p := ⟨q, 3, none⟩) (by dsimp only; omega) _, (((ha.1.2.2.setCell (p := ⟨q, 0, none⟩) (by dsimp only; omega) _).setCell (p := ⟨q, 1, none⟩) (by dsimp only; omega) _).setCell (p := ⟨q, 2, none⟩) (by dsimp only; omega) _).setCell (p := ⟨q, 3, none⟩) (by dsimp only; omega) _⟩, (((ha.2.1.set_ 0 _).set_ 1 _).set_ 2 _).set_ 3 _, ⟨Nat.zero_le _, ?_⟩, Nat.le_refl _, hq1⟩
                    refine ((((PtN.set ?_ (a := ⟨q, 0, none⟩) (.inr rfl) _).set (a := ⟨q, 1, none⟩) (.inr rfl) _).set (a := ⟨q, 2, none⟩) (.inr rfl) _).set (a := ⟨q, 3, none⟩) (.inr rfl) _)
                    have hk := two_kids (S := fun i => i < W.heap.size + 2 ∨ i = q) (D := d + (p + 1 - (r + 1))) (x := .node uk um ut uks) (y := .node yk ym yt yks) (RW.new w3 _ 29) (by first | omega | (dsimp only; omega)) rfl HNC2.out HO3.out.2.2.2.1 HUT.out (((HV.out.1.2.away (S := fun i => i < W.heap.size + 2 ∨ i = q) (fun b hb1 hb2 hs => by have h1 := HO.out.2.1.lt; have h2 : q < wr.drew.heap.size := h1; omega) (Nat.le_refl _)).below (below_alloc _ _)).ups (by omega)) ha.2.2.1.1 ha.2.2.1.2
                    rw [show d + (p + 1 - r) = d + (p + 1 - (r + 1)) + 1 from by have := HRP.out; omega]
                    exact hk
                  have HY4 : Hid (Pt.node κ 0 ⟨#[]⟩ [.node uk um ut uks, .node yk ym yt yks] = chP κ ν (xs.drop r)) := by
                    show _ = _
                    rw [chP_step HU.out (by have := HL.out; have := HRP.out; omega), ← HY.out]
                  clear o0 o1 o2 o3 o30 o31 o32 o33 o40 o41 o42 o43 g40 g41 g42 g43 HO3 HV HREC HO HX3
                  generalize ((((w3.alloc (.cells #[.int .i64 uk, .int .i64 um, .string ut, .slice A' n1 c', .int .i64 yk, .int .i64 ym, .string yt, .slice A2 n2 c2] 29)).setCell ⟨q, 0, none⟩ (.int .i64 κ)).setCell ⟨q, 1, none⟩ (.int .i64 0)).setCell ⟨q, 2, none⟩ (.string ⟨#[]⟩)).setCell ⟨q, 3, none⟩ (.slice (some ⟨w3.heap.size, 0, none⟩) 2 2) = w5 at HO4 ⊢
                  go_wp2_with fail
                  go_roundw
                  case rel => exact ⟨r, _, _, _, _, _, by have := HRP.out; omega, rfl, rfl, HY4, HO4⟩
                  case measure => first | (simp [intOf]; done) | (simp [intOf]; omega)
        · have dd : decide (60 < ((j - 1 + pcntK xs j : Nat) : Int)) = true := by simp; omega
          obtain ⟨rfl, rfl⟩ := HNO.out (fun h => by
            obtain ⟨h1, h2⟩ := HVA.out.1 h
            rw [HCE.out, HL.out] at h1
            omega)
          obtain ⟨ac, hac⟩ : ∃ ac, j - 1 + pcntK xs j = ac := ⟨_, rfl⟩
          rw [hac] at dd ⊢
          clear hac hsum
          go_wp2_with fail
          exact bodyPost_ret (v := .tuple #[.agg #[.int .i64 0, .int .i64 0, .string ⟨#[]⟩, .slice none 0 0], .bool false]) (by rw [results_cell_tmp rfl]; go_simp) rfl (zero_ret HB1.out _ _ (by repeat (first | exact HB1.out.2.2 | refine Below.setCell ?_ (by first | (simp; done) | (simp; omega)) _)) rfl)
  · have d0 : decide (60 < (n : Int)) = true := by simp; omega
    obtain ⟨rfl, rfl⟩ := HNO.out (fun h => by
      have h1 := (HVA.out.1 h).1
      have h2 := pcntK_ge xs n (by have := HL.out; omega)
      rw [HCE.out] at h1
      omega)
    go_enter Tryd.func64, Tryd.ntmps64
    have HB1 := Lib.hid (HBX.out _ rfl)
    go_wp2_with fail
    exact bodyPost_ret (v := .tuple #[.agg #[.int .i64 0, .int .i64 0, .string ⟨#[]⟩, .slice none 0 0], .bool false]) (by rw [results_cell_tmp rfl]; go_simp) rfl (zero_ret HB1.out _ _ (by repeat (first | exact HB1.out.2.2 | refine Below.setCell ?_ (by first | (simp; done) | (simp; omega)) _)) rfl)
end Go.Proofs.YtjeiiljdhnmofaaDoor
