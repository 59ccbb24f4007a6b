/- Plain: what LookupNamed answers; contracts: l12Find, LookupNamed of the model. No condition. -/
import Derived.Test.YtjeiiljdhnmofaaDoorEnvSpec
import Derived.Test.YtjeiiljdhnmofaaDoorChain
namespace Go.Proofs.YtjeiiljdhnmofaaDoor
open Go Go.RowKit

/-- The pattern under a name, or the zero pattern. -/
noncomputable def lkA (xs : List Nm) (nm : ByteArray) : Pt := open Classical in if EnvOk xs ∧ 0 ≤ placeI xs nm then ((xs[(placeI xs nm).toNat]?.map (·.pt)).getD (.node 0 0 ⟨#[]⟩ [])) else .node 0 0 ⟨#[]⟩ []
noncomputable def lkB (xs : List Nm) (nm : ByteArray) : Bool := tt (EnvOk xs ∧ 0 ≤ placeI xs nm)
theorem lk_no {xs : List Nm} {nm : ByteArray} (h : ¬ (EnvOk xs ∧ 0 ≤ placeI xs nm)) : lkA xs nm = .node 0 0 ⟨#[]⟩ [] ∧ lkB xs nm = false := ⟨by rw [lkA, if_neg h], tt_false h⟩
theorem lk_yes {xs : List Nm} {nm : ByteArray} {k : Nat} {x : Nm} (h : EnvOk xs) (hp : placeI xs nm = (k : Int)) (hx : xs[k]? = some x) : lkA xs nm = x.pt ∧ lkB xs nm = true := by
  have h0 : EnvOk xs ∧ 0 ≤ placeI xs nm := ⟨h, by rw [hp]; omega⟩
  refine ⟨?_, tt_true h0⟩
  rw [lkA, if_pos h0, hp, Int.toNat_natCast, hx]
  rfl
theorem place_cases (xs : List Nm) (nm : ByteArray) : placeI xs nm = -1 ∨ ∃ (k : Nat) (x : Nm), xs[k]? = some x ∧ placeI xs nm = (k : Int) := by
  rcases placeFrom_spec nm xs 0 with ⟨h, _⟩ | ⟨j, y, h1, _, h3, _⟩
  · exact .inl h
  · exact .inr ⟨j, y, h1, by rw [placeI, h3, Nat.zero_add]⟩
/-- The zero pattern has no Kids anywhere. -/
theorem zero_kids {w : World} {lo B : Nat} : ∀ (D : Nat), PtD w lo B D none 0 []
  | 0 => ⟨rfl, rfl⟩
  | _ + 1 => ⟨rfl, Nat.zero_le _, fun h => absurd h (by omega)⟩

set_option maxHeartbeats 2000000 in
set_option maxRecDepth 100000 in
theorem l12Find_any (d : Nat) (A : Option Addr) (n c : Nat) (xs : List Nm) (nm : ByteArray) (W : World) (hr : NmI W 0 W.heap.size d A n xs) :
    Calls Tryd.prog 59 #[.slice A n c, .string nm] W fun e w' => e = .returned (.int .i64 (placeI xs nm)) ∧ Below W.heap.size W w' := by
  have HR := Lib.hid hr
  have HL := Lib.hid hr.1
  have hn := hr.2.1
  unfold maxLen at hn
  obtain ⟨P, hP⟩ : ∃ P, placeI xs nm = P := ⟨_, rfl⟩
  have HP := Lib.hid hP
  rw [hP]
  clear hr hP
  go_enter Tryd.func59, Tryd.ntmps59
  go_wp2_with fail
  go_loopw [5] (fun i wr => ∃ k : Nat, k ≤ n ∧ i = .int .i64 k ∧ Hid (Below W.heap.size W wr) ∧ Hid (∀ (j : Nat) (y : Nm), j < k → xs[j]? = some y → y.name ≠ nm)) (fun i _ => n - (intOf i).toNat)
  case atStart => exact ⟨0, Nat.zero_le _, rfl, Below.refl _ _, Lib.hid (fun j y hj => absurd hj (by omega))⟩
  case round =>
    obtain ⟨k, hk, rfl, HW, HA⟩ := hrel
    by_cases hlt : k < n
    · obtain ⟨b, off, x, A1, n1, c1, rfl, _, hgb, hx, _, ⟨q0, q1, q2, q3, q4⟩, hv⟩ := (HR.out.go HW.out).at_ hlt
      have HX := Lib.hid hx
      have b0 : (0 : Int) ≤ (k : Int) := by omega
      have b1 : (k : Int) < (n : Int) := by omega
      obtain ⟨z, hz⟩ : ∃ z, (x.name.toList == nm.toList) = z := ⟨_, rfl⟩
      have HZ := Lib.hid hz
      cases z
      · clear hx hv hgb
        go_wp2_with fail
        go_roundw
        case rel =>
          refine ⟨k + 1, by omega, by go_num, HW, Lib.hid (fun j y hj hy => ?_)⟩
          by_cases e : j = k
          · subst e
            rw [HX.out, Option.some.injEq] at hy
            subst hy
            exact fun e2 => by have := (name_iff _ _).2 e2; rw [HZ.out] at this; cases this
          · exact HA.out j y (by omega) hy
        case measure => simp [intOf]; omega
      · have HK : Hid (P = (k : Int)) := by show _ = _; rw [← HP.out]; exact place_at HX.out ((name_iff _ _).1 HZ.out) HA.out
        clear hx hv hgb
        go_wp2_with fail
        go_ret
        exact ⟨by rw [HK.out]; rfl, HW.out⟩
    · have HK : Hid (P = -1) := by show _ = _; rw [← HP.out]; exact place_none fun j y hy => HA.out j y (by have := (List.getElem?_eq_some_iff.1 hy).1; have := HL.out; omega) hy
      go_wp2_with fail
      go_ret
      exact ⟨by rw [HK.out]; rfl, HW.out⟩

set_option maxHeartbeats 4000000 in
set_option maxRecDepth 100000 in
theorem spec_LookupNamed_any (d : Nat) (A : Option Addr) (n c : Nat) (xs : List Nm) (nm : ByteArray) (W : World) (hr : NmI W 0 W.heap.size d A n xs) :
    Calls Tryd.prog 24 #[.slice A n c, .string nm] W (RetCh d (lkA xs nm) (lkB xs nm) W) := by
  have HVE : Hid (∀ X, Below W.heap.size W X → Calls Tryd.prog 20 #[.slice A n c] X fun e w' => e = .returned (.bool (tt (EnvOk xs))) ∧ Below X.heap.size X w') := fun X hb => spec_ValidEnv_any d A n c xs X (hr.go hb)
  have HFD : Hid (∀ X, Below W.heap.size W X → Calls Tryd.prog 59 #[.slice A n c, .string nm] X fun e w' => e = .returned (.int .i64 (placeI xs nm)) ∧ Below X.heap.size X w') := fun X hb => l12Find_any d A n c xs nm X (hr.go hb)
  have HR := Lib.hid hr
  have HBX : Hid (RW 29 ((W.alloc (.cells #[.int .i64 0, .int .i64 0, .string ⟨#[]⟩, .slice none 0 0] 29))) W.heap.size #[.int .i64 0, .int .i64 0, .string ⟨#[]⟩, .slice none 0 0] ∧ Below W.heap.size W ((W.alloc (.cells #[.int .i64 0, .int .i64 0, .string ⟨#[]⟩, .slice none 0 0] 29)))) := ⟨RW.new _ _ _, below_alloc _ _⟩
  obtain ⟨b, hb⟩ : ∃ b, lkB xs nm = b := ⟨_, rfl⟩
  obtain ⟨y, hy⟩ : ∃ y, lkA xs nm = y := ⟨_, rfl⟩
  have HNO : Hid (¬ (EnvOk xs ∧ 0 ≤ placeI xs nm) → y = .node 0 0 ⟨#[]⟩ [] ∧ b = false) := by
    show _ → _
    intro h
    rw [← hb, ← hy]
    exact lk_no h
  have HYES : Hid (∀ (k : Nat) (x : Nm), EnvOk xs → placeI xs nm = (k : Int) → xs[k]? = some x → y = x.pt ∧ b = true) := by
    show ∀ (k : Nat) (x : Nm), _ → _ → _ → _
    intro k x h1 h2 h3
    rw [← hb, ← hy]
    exact lk_yes h1 h2 h3
  rw [hb, hy]
  have HPC := Lib.hid (place_cases xs nm)
  obtain ⟨P, hP⟩ : ∃ P, placeI xs nm = P := ⟨_, rfl⟩
  rw [hP] at HFD HNO HYES HPC
  obtain ⟨V, hV⟩ : ∃ V, tt (EnvOk xs) = V := ⟨_, rfl⟩
  rw [hV] at HVE
  have HV0 := Lib.hid hV
  clear hb hy hP hV hr
  rcases HPC.out with rfl | ⟨k, x, hx, rfl⟩
  · obtain ⟨rfl, rfl⟩ := HNO.out (fun h => absurd h.2 (by decide))
    cases V
    all_goals
      go_enter Tryd.func24, Tryd.ntmps24
      go_wp2_with (go_at_call 59; refine Calls.mono (HFD.out _ HBX.out.2) ?_; rintro e w1 ⟨rfl, hb⟩; have HBw1 : Hid (RW 29 w1 W.heap.size #[.int .i64 0, .int .i64 0, .string ⟨#[]⟩, .slice none 0 0] ∧ Below W.heap.size W w1) := ⟨HBX.out.1.below hb HBX.out.1.lt, HBX.out.2.trans (hb.mono HBX.out.2.size)⟩; have s0 : w1.cell? ⟨W.heap.size, 0, none⟩ = some (.int .i64 0) := HBw1.out.1.cell 0; have s1 : w1.cell? ⟨W.heap.size, 1, none⟩ = some (.int .i64 0) := HBw1.out.1.cell 1; have s2 : w1.cell? ⟨W.heap.size, 2, none⟩ = some (.string ⟨#[]⟩) := HBw1.out.1.cell 2; have s3 : w1.cell? ⟨W.heap.size, 3, none⟩ = some (.slice none 0 0) := HBw1.out.1.cell 3; have f0 : w1.frozen? ⟨W.heap.size, 0, none⟩ = false := HBw1.out.1.frozen 0; have f1 : w1.frozen? ⟨W.heap.size, 1, none⟩ = false := HBw1.out.1.frozen 1; have f2 : w1.frozen? ⟨W.heap.size, 2, none⟩ = false := HBw1.out.1.frozen 2; have f3 : w1.frozen? ⟨W.heap.size, 3, none⟩ = false := HBw1.out.1.frozen 3; clear hb)
      exact bodyPost_ret (v := .tuple #[.agg #[.int .i64 0, .int .i64 0, .string ⟨#[]⟩, .slice none 0 0], .bool false]) (by rw [results_cell_tmp rfl]; go_simp) rfl ⟨none, 0, 0, Nat.le_refl _, rfl, Lib.hid ⟨⟨Nat.zero_le _, zero_kids _⟩, (by repeat (first | exact HBw1.out.2 | refine Below.setCell ?_ (by first | (simp; done) | (simp; omega)) _))⟩⟩
  · cases V
    · obtain ⟨rfl, rfl⟩ := HNO.out (fun h => by have := tt_true h.1; rw [HV0.out] at this; cases this)
      have b0 : decide ((k : Int) < 0) = false := by first | (simp; done) | (simp; omega)
      go_enter Tryd.func24, Tryd.ntmps24
      go_wp2_with (first | (go_at_call 59; refine Calls.mono (HFD.out _ HBX.out.2) ?_; rintro e w1 ⟨rfl, hb⟩; have HBw1 : Hid (RW 29 w1 W.heap.size #[.int .i64 0, .int .i64 0, .string ⟨#[]⟩, .slice none 0 0] ∧ Below W.heap.size W w1) := ⟨HBX.out.1.below hb HBX.out.1.lt, HBX.out.2.trans (hb.mono HBX.out.2.size)⟩; have s0 : w1.cell? ⟨W.heap.size, 0, none⟩ = some (.int .i64 0) := HBw1.out.1.cell 0; have s1 : w1.cell? ⟨W.heap.size, 1, none⟩ = some (.int .i64 0) := HBw1.out.1.cell 1; have s2 : w1.cell? ⟨W.heap.size, 2, none⟩ = some (.string ⟨#[]⟩) := HBw1.out.1.cell 2; have s3 : w1.cell? ⟨W.heap.size, 3, none⟩ = some (.slice none 0 0) := HBw1.out.1.cell 3; have f0 : w1.frozen? ⟨W.heap.size, 0, none⟩ = false := HBw1.out.1.frozen 0; have f1 : w1.frozen? ⟨W.heap.size, 1, none⟩ = false := HBw1.out.1.frozen 1; have f2 : w1.frozen? ⟨W.heap.size, 2, none⟩ = false := HBw1.out.1.frozen 2; have f3 : w1.frozen? ⟨W.heap.size, 3, none⟩ = false := HBw1.out.1.frozen 3; clear hb) | (go_at_call 20; clear s0 s1 s2 s3 f0 f1 f2 f3; refine Calls.mono (HVE.out _ HBw1.out.2) ?_; rintro e w2 ⟨rfl, hb⟩; have HBw2 : Hid (RW 29 w2 W.heap.size #[.int .i64 0, .int .i64 0, .string ⟨#[]⟩, .slice none 0 0] ∧ Below W.heap.size W w2) := ⟨HBw1.out.1.below hb HBw1.out.1.lt, HBw1.out.2.trans (hb.mono HBw1.out.2.size)⟩; have s0 : w2.cell? ⟨W.heap.size, 0, none⟩ = some (.int .i64 0) := HBw2.out.1.cell 0; have s1 : w2.cell? ⟨W.heap.size, 1, none⟩ = some (.int .i64 0) := HBw2.out.1.cell 1; have s2 : w2.cell? ⟨W.heap.size, 2, none⟩ = some (.string ⟨#[]⟩) := HBw2.out.1.cell 2; have s3 : w2.cell? ⟨W.heap.size, 3, none⟩ = some (.slice none 0 0) := HBw2.out.1.cell 3; have f0 : w2.frozen? ⟨W.heap.size, 0, none⟩ = false := HBw2.out.1.frozen 0; have f1 : w2.frozen? ⟨W.heap.size, 1, none⟩ = false := HBw2.out.1.frozen 1; have f2 : w2.frozen? ⟨W.heap.size, 2, none⟩ = false := HBw2.out.1.frozen 2; have f3 : w2.frozen? ⟨W.heap.size, 3, none⟩ = false := HBw2.out.1.frozen 3; clear hb))
      exact bodyPost_ret (v := .tuple #[.agg #[.int .i64 0, .int .i64 0, .string ⟨#[]⟩, .slice none 0 0], .bool false]) (by rw [results_cell_tmp rfl]; go_simp) rfl ⟨none, 0, 0, Nat.le_refl _, rfl, Lib.hid ⟨⟨Nat.zero_le _, zero_kids _⟩, (by repeat (first | exact HBw2.out.2 | refine Below.setCell ?_ (by first | (simp; done) | (simp; omega)) _))⟩⟩
    · have d0 : decide ((k : Int) < 0) = false := by first | (simp; done) | (simp; omega)
      obtain ⟨bb, off, x, A1, n1, c1, rfl, _, hgb, hx2, hnc1, hat, hv⟩ := HR.out.at_ (show k < n by have := HR.out.1; have := (List.getElem?_eq_some_iff.1 hx).1; omega)
      rw [hx, Option.some.injEq] at hx2
      subst hx2
      obtain ⟨rfl, rfl⟩ := HYES.out k x (of_tt HV0.out) rfl hx
      have hcnt : ptCnt x.pt ≤ 1000 := by have := ((of_tt HV0.out).2 k x hx).2.1.1; omega
      have HCP := Lib.hid (fun X (hb : Below W.heap.size W X) => copy_any d x.pt A1 n1 c1 X hv.2.1 hnc1 ((hv.2.2.below hb).more (Nat.le_refl _) hb.size) hcnt)
      have HAT := Lib.hid (fun X (hb : Below W.heap.size W X) => hat.below hb hgb)
      have b0 : (0 : Int) ≤ (k : Int) := by omega
      have b1 : (k : Int) < (n : Int) := by have := HR.out.1; have := (List.getElem?_eq_some_iff.1 hx).1; omega
      obtain ⟨xn, yk, ym, yt, yks⟩ := x
      have HQ : Hid (∀ X, Below W.heap.size W X → X.cell? ⟨bb, off + k * 5 + 1, none⟩ = some (.int .i64 yk) ∧ X.cell? ⟨bb, off + k * 5 + 2, none⟩ = some (.int .i64 ym) ∧ X.cell? ⟨bb, off + k * 5 + 3, none⟩ = some (.string yt) ∧ X.cell? ⟨bb, off + k * 5 + 4, none⟩ = some (.slice A1 n1 c1)) := fun X hb => (HAT.out X hb).2
      clear hx hat hv hcnt hgb hnc1
      go_enter Tryd.func24, Tryd.ntmps24
      go_wp2_with (first | (go_at_call 59; refine Calls.mono (HFD.out _ HBX.out.2) ?_; rintro e w1 ⟨rfl, hb⟩; have HBw1 : Hid (RW 29 w1 W.heap.size #[.int .i64 0, .int .i64 0, .string ⟨#[]⟩, .slice none 0 0] ∧ Below W.heap.size W w1) := ⟨HBX.out.1.below hb HBX.out.1.lt, HBX.out.2.trans (hb.mono HBX.out.2.size)⟩; have s0 : w1.cell? ⟨W.heap.size, 0, none⟩ = some (.int .i64 0) := HBw1.out.1.cell 0; have s1 : w1.cell? ⟨W.heap.size, 1, none⟩ = some (.int .i64 0) := HBw1.out.1.cell 1; have s2 : w1.cell? ⟨W.heap.size, 2, none⟩ = some (.string ⟨#[]⟩) := HBw1.out.1.cell 2; have s3 : w1.cell? ⟨W.heap.size, 3, none⟩ = some (.slice none 0 0) := HBw1.out.1.cell 3; have f0 : w1.frozen? ⟨W.heap.size, 0, none⟩ = false := HBw1.out.1.frozen 0; have f1 : w1.frozen? ⟨W.heap.size, 1, none⟩ = false := HBw1.out.1.frozen 1; have f2 : w1.frozen? ⟨W.heap.size, 2, none⟩ = false := HBw1.out.1.frozen 2; have f3 : w1.frozen? ⟨W.heap.size, 3, none⟩ = false := HBw1.out.1.frozen 3; clear hb) | (go_at_call 20; clear s0 s1 s2 s3 f0 f1 f2 f3; refine Calls.mono (HVE.out _ HBw1.out.2) ?_; rintro e w2 ⟨rfl, hb⟩; have HBw2 : Hid (RW 29 w2 W.heap.size #[.int .i64 0, .int .i64 0, .string ⟨#[]⟩, .slice none 0 0] ∧ Below W.heap.size W w2) := ⟨HBw1.out.1.below hb HBw1.out.1.lt, HBw1.out.2.trans (hb.mono HBw1.out.2.size)⟩; have s0 : w2.cell? ⟨W.heap.size, 0, none⟩ = some (.int .i64 0) := HBw2.out.1.cell 0; have s1 : w2.cell? ⟨W.heap.size, 1, none⟩ = some (.int .i64 0) := HBw2.out.1.cell 1; have s2 : w2.cell? ⟨W.heap.size, 2, none⟩ = some (.string ⟨#[]⟩) := HBw2.out.1.cell 2; have s3 : w2.cell? ⟨W.heap.size, 3, none⟩ = some (.slice none 0 0) := HBw2.out.1.cell 3; have f0 : w2.frozen? ⟨W.heap.size, 0, none⟩ = false := HBw2.out.1.frozen 0; have f1 : w2.frozen? ⟨W.heap.size, 1, none⟩ = false := HBw2.out.1.frozen 1; have f2 : w2.frozen? ⟨W.heap.size, 2, none⟩ = false := HBw2.out.1.frozen 2; have f3 : w2.frozen? ⟨W.heap.size, 3, none⟩ = false := HBw2.out.1.frozen 3; clear hb; obtain ⟨q1, q2, q3, q4⟩ := HQ.out w2 HBw2.out.2) | (go_at_call 60; refine Calls.mono (HCP.out w2 HBw2.out.2) ?_; clear s0 s1 s2 s3 f0 f1 f2 f3; rintro e w3 ⟨A', c', hnc, he, h⟩; obtain rfl : e = .returned (.agg #[.int .i64 yk, .int .i64 ym, .string yt, .slice A' n1 c']) := he; have HNC := Lib.hid hnc; have HV : Hid (yt.size ≤ maxLen ∧ PtD w3 w2.heap.size w3.heap.size d A' n1 yks) := h.out.1; have hb := h.out.2; have HBw3 : Hid (RW 29 w3 W.heap.size #[.int .i64 0, .int .i64 0, .string ⟨#[]⟩, .slice none 0 0] ∧ Below W.heap.size W w3) := ⟨HBw2.out.1.below hb HBw2.out.1.lt, HBw2.out.2.trans (hb.mono HBw2.out.2.size)⟩; have s0 : w3.cell? ⟨W.heap.size, 0, none⟩ = some (.int .i64 0) := HBw3.out.1.cell 0; have s1 : w3.cell? ⟨W.heap.size, 1, none⟩ = some (.int .i64 0) := HBw3.out.1.cell 1; have s2 : w3.cell? ⟨W.heap.size, 2, none⟩ = some (.string ⟨#[]⟩) := HBw3.out.1.cell 2; have s3 : w3.cell? ⟨W.heap.size, 3, none⟩ = some (.slice none 0 0) := HBw3.out.1.cell 3; have f0 : w3.frozen? ⟨W.heap.size, 0, none⟩ = false := HBw3.out.1.frozen 0; have f1 : w3.frozen? ⟨W.heap.size, 1, none⟩ = false := HBw3.out.1.frozen 1; have f2 : w3.frozen? ⟨W.heap.size, 2, none⟩ = false := HBw3.out.1.frozen 2; have f3 : w3.frozen? ⟨W.heap.size, 3, none⟩ = false := HBw3.out.1.frozen 3; clear hb h hnc))
      exact bodyPost_ret (v := .tuple #[.agg #[.int .i64 yk, .int .i64 ym, .string yt, .slice A' n1 c'], .bool true]) (by rw [results_cell_tmp rfl]; go_simp) rfl ⟨A', n1, c', HNC.out, rfl, Lib.hid ⟨⟨HV.out.1, ((((HV.out.2.other (q := ⟨W.heap.size, 0, none⟩) (.inl HBw2.out.1.lt) _).other (q := ⟨W.heap.size, 1, none⟩) (.inl HBw2.out.1.lt) _).other (q := ⟨W.heap.size, 2, none⟩) (.inl HBw2.out.1.lt) _).other (q := ⟨W.heap.size, 3, none⟩) (.inl HBw2.out.1.lt) _).more (Nat.le_of_lt HBw2.out.1.lt) (Nat.le_of_eq (by simp [World.setCell]))⟩, (by repeat (first | exact HBw3.out.2 | refine Below.setCell ?_ (by first | (simp; done) | (simp; omega)) _))⟩⟩
end Go.Proofs.YtjeiiljdhnmofaaDoor
