/- Plain: valid environments, the place of a name; contracts: placeOfName, ValidEnv of the program. Condition: the tables hold what the program's text lays. -/
import Derived.Test.YtjeiiljdhnmofaaDoorNmsEq
import Derived.Test.YtjeiiljdhnmofaaDoorPtValP
namespace Go.Proofs.YtjeiiljdhnmofaaDoor
open Go Go.RowKit

/-- An environment. -/
def EnvOk (xs : List Nm) : Prop := xs.length ≤ 40 ∧ ∀ (k : Nat) (x : Nm), xs[k]? = some x → isNameB x.name = true ∧ ValidP x.pt ∧ ∀ (j : Nat) (y : Nm), j < k → xs[j]? = some y → y.name ≠ x.name
theorem name_iff (a b : ByteArray) : (a.toList == b.toList) = true ↔ a = b := by
  rw [beq_iff_eq]
  exact ⟨fun h => WideShapes.bytes_inj (by rw [← ByteArray.toList_eq, ← ByteArray.toList_eq]; exact h), fun h => by rw [h]⟩
/-- The place of the first element with a name, counted from k on; -1 if there is none. -/
def placeFrom (nm : ByteArray) : List Nm → Nat → Int
  | [], _ => -1
  | x :: xs, k => if (x.name.toList == nm.toList) = true then (k : Int) else placeFrom nm xs (k + 1)
def placeI (xs : List Nm) (nm : ByteArray) : Int := placeFrom nm xs 0
theorem placeFrom_spec (nm : ByteArray) : ∀ (xs : List Nm) (k : Nat), (placeFrom nm xs k = -1 ∧ ∀ (j : Nat) (y : Nm), xs[j]? = some y → y.name ≠ nm) ∨ ∃ (j : Nat) (y : Nm), xs[j]? = some y ∧ y.name = nm ∧ placeFrom nm xs k = (k + j : Nat) ∧ ∀ (i : Nat) (z : Nm), i < j → xs[i]? = some z → z.name ≠ nm
  | [], k => .inl ⟨rfl, fun j y h => by simp at h⟩
  | x :: xs, k => by
    by_cases hx : (x.name.toList == nm.toList) = true
    · exact .inr ⟨0, x, rfl, (name_iff _ _).1 hx, by rw [placeFrom, if_pos hx]; rfl, fun i z hi => absurd hi (by omega)⟩
    · have hne : x.name ≠ nm := fun e => hx ((name_iff _ _).2 e)
      rcases placeFrom_spec nm xs (k + 1) with ⟨h1, h2⟩ | ⟨j, y, h1, h2, h3, h4⟩
      · refine .inl ⟨by rw [placeFrom, if_neg hx]; exact h1, fun j y hj => ?_⟩
        cases j with
        | zero => simp at hj; rw [← hj]; exact hne
        | succ j => exact h2 j y (by simpa using hj)
      · refine .inr ⟨j + 1, y, by simpa using h1, h2, by rw [placeFrom, if_neg hx, h3]; congr 1; omega, fun i z hi hz => ?_⟩
        cases i with
        | zero => simp at hz; rw [← hz]; exact hne
        | succ i => exact h4 i z (by omega) (by simpa using hz)
theorem place_none {xs : List Nm} {nm : ByteArray} (h : ∀ (j : Nat) (y : Nm), xs[j]? = some y → y.name ≠ nm) : placeI xs nm = -1 := by
  rcases placeFrom_spec nm xs 0 with ⟨h1, _⟩ | ⟨j, y, h1, h2, _⟩
  · exact h1
  · exact absurd h2 (h j y h1)
theorem place_at {xs : List Nm} {nm : ByteArray} {k : Nat} {x : Nm} (hx : xs[k]? = some x) (hn : x.name = nm) (h : ∀ (j : Nat) (y : Nm), j < k → xs[j]? = some y → y.name ≠ nm) : placeI xs nm = (k : Int) := by
  rcases placeFrom_spec nm xs 0 with ⟨_, h2⟩ | ⟨j, y, h1, h2, h3, h4⟩
  · exact absurd hn (h2 k x hx)
  · rcases Nat.lt_trichotomy j k with e | e | e
    · exact absurd h2 (h j y e h1)
    · rw [placeI, h3, e, Nat.zero_add]
    · exact absurd hn (h4 k x e hx)
theorem place_lt {xs : List Nm} {k : Nat} {x : Nm} (hx : xs[k]? = some x) : decide (placeI xs x.name < (k : Int)) = true ↔ ¬ ∀ (j : Nat) (y : Nm), j < k → xs[j]? = some y → y.name ≠ x.name := by
  rw [decide_eq_true_iff]
  constructor
  · intro h hn
    rw [place_at hx rfl hn] at h
    omega
  · intro h
    rcases placeFrom_spec x.name xs 0 with ⟨_, h2⟩ | ⟨j, y, h1, h2, h3, h4⟩
    · exact absurd rfl (h2 k x hx)
    · rw [placeI, h3, Nat.zero_add]
      by_cases hjk : j < k
      · omega
      · exact absurd (fun i z hi hz => h4 i z (by omega) hz) h

theorem holds_any (x : Nm) (A : Option Addr) (n c g : Nat) (nm : ByteArray) (w : World) (hg : RW 9 w g #[.string nm]) :
    Calls Tryd.prog 78 #[x.ag A n c, .pointer (some ⟨g, 0, none⟩)] w fun e w' => e = .returned (.bool (x.name.toList == nm.toList)) ∧ Below w.heap.size w w' := by
  have p0 : ∀ o, (w.alloc o).cell? ⟨g, 0, none⟩ = some (.string nm) := fun o => (hg.alloc o).cell 0
  obtain ⟨xn, k, m, t, ks⟩ := x
  clear hg
  show Calls Tryd.prog 78 #[.agg #[.string xn, .int .i64 k, .int .i64 m, .string t, .slice A n c], .pointer (some ⟨g, 0, none⟩)] w fun e w' => e = .returned (.bool (xn.toList == nm.toList)) ∧ Below w.heap.size w w'
  go_enter Tryd.func78, Tryd.ntmps78
  go_wp2_with fail
  go_ret
  exact ⟨rfl, below_alloc _ _⟩

set_option maxHeartbeats 1000000 in
set_option maxRecDepth 100000 in
theorem firstWhere_any (d : Nat) (A : Option Addr) (n c g : Nat) (xs : List Nm) (nm : ByteArray) (W : World) (hr : NmI W 0 W.heap.size d A n xs) (hg : RW 9 W g #[.string nm]) :
    Calls Tryd.prog 77 #[.slice A n c, .func (.func 78) #[] #[.pointer (some ⟨g, 0, none⟩)]] W fun e w' => e = .returned (.int .i64 (placeI xs nm)) ∧ Below W.heap.size W w' := by
  have HR := Lib.hid hr
  have HG := Lib.hid hg
  have hn := hr.2.1
  have HL := Lib.hid hr.1
  unfold maxLen at hn
  obtain ⟨P, hP⟩ : ∃ P, placeI xs nm = P := ⟨_, rfl⟩
  have HP := Lib.hid hP
  rw [hP]
  clear hr hg hP
  go_enter Tryd.func77, Tryd.ntmps77
  go_wp2_with fail
  go_loopw [9] (fun i wr => ∃ k : Nat, k ≤ n ∧ i = .int .i64 k ∧ Hid (Below W.heap.size W wr) ∧ Hid (∀ (j : Nat) (y : Nm), j < k → xs[j]? = some y → y.name ≠ nm)) (fun i _ => n - (intOf i).toNat)
  case atStart => exact ⟨0, Nat.zero_le _, rfl, Below.refl _ _, Lib.hid (fun j y hj => absurd hj (by omega))⟩
  case round =>
    obtain ⟨k, hk, rfl, HW, HA⟩ := hrel
    by_cases hlt : k < n
    · obtain ⟨b, off, x, A1, n1, c1, rfl, _, hgb, hx, _, ⟨q0, q1, q2, q3, q4⟩, _⟩ := (HR.out.go HW.out).at_ hlt
      have HX := Lib.hid hx
      have b0 : (0 : Int) ≤ (k : Int) := by omega
      have b1 : (k : Int) < (n : Int) := by omega
      have HQ := Lib.hid (fun X (hX : Below wr.heap.size wr X) => holds_any x A1 n1 c1 g nm X (HG.out.below (HW.out.trans (hX.mono HW.out.size)) HG.out.lt))
      have HBA := Lib.hid (fun X (e : X = wr.alloc (.cells #[.string x.name, .int .i64 x.pt.k, .int .i64 x.pt.n, .string x.pt.t, .slice A1 n1 c1] 78)) => (show Below wr.heap.size wr X from by rw [e]; exact below_alloc _ _))
      obtain ⟨z, hz⟩ : ∃ z, (x.name.toList == nm.toList) = z := ⟨_, rfl⟩
      have HZ := Lib.hid hz
      clear hx hgb hz
      obtain ⟨xn, xk, xm, xt, xks⟩ := x
      change wr.cell? ⟨b, off + k * 5, none⟩ = some (.string xn) at q0
      change wr.cell? ⟨b, off + k * 5 + 1, none⟩ = some (.int .i64 xk) at q1
      change wr.cell? ⟨b, off + k * 5 + 2, none⟩ = some (.int .i64 xm) at q2
      change wr.cell? ⟨b, off + k * 5 + 3, none⟩ = some (.string xt) at q3
      cases z
      · go_wp2_with (go_at_call 78; have g1 := HBA.out _ rfl; refine Calls.mono (HQ.out _ g1) ?_; rintro e w2 ⟨rfl, hb⟩; rw [HZ.out]; have HW2 := Lib.hid (HW.out.trans ((g1.trans (hb.mono g1.size)).mono HW.out.size)); clear g1 hb)
        go_roundw
        case rel =>
          refine ⟨k + 1, by omega, by go_num, HW2, Lib.hid (fun j y hj hy => ?_)⟩
          by_cases e : j = k
          · subst e
            rw [HX.out, Option.some.injEq] at hy
            subst hy
            intro e2
            have := (name_iff _ _).2 e2
            rw [HZ.out] at this
            cases this
          · exact HA.out j y (by omega) hy
        case measure => simp [intOf]; omega
      · have HK : Hid (P = (k : Int)) := by show _ = _; rw [← HP.out]; exact place_at HX.out ((name_iff _ _).1 HZ.out) HA.out
        go_wp2_with (go_at_call 78; have g1 := HBA.out _ rfl; refine Calls.mono (HQ.out _ g1) ?_; rintro e w2 ⟨rfl, hb⟩; rw [HZ.out]; have HW2 := Lib.hid (HW.out.trans ((g1.trans (hb.mono g1.size)).mono HW.out.size)); clear g1 hb)
        go_ret
        exact ⟨by rw [HK.out]; rfl, HW2.out⟩
    · have hkn : k = n := by omega
      have HK : Hid (P = -1) := by show _ = _; rw [← HP.out]; exact place_none fun j y hy => HA.out j y (by have := (List.getElem?_eq_some_iff.1 hy).1; have := HL.out; omega) hy
      clear hkn
      go_wp2_with fail
      go_ret
      exact ⟨by rw [HK.out]; rfl, HW.out⟩

theorem placeOfName_any (d : Nat) (A : Option Addr) (n c : Nat) (xs : List Nm) (nm : ByteArray) (W : World) (hr : NmI W 0 W.heap.size d A n xs) :
    Calls Tryd.prog 57 #[.slice A n c, .string nm] W fun e w' => e = .returned (.int .i64 (placeI xs nm)) ∧ Below W.heap.size W w' := by
  have HQ := Lib.hid (fun X (e : X = W.alloc (.cells #[.string nm] 9)) => (show Calls Tryd.prog 77 #[.slice A n c, .func (.func 78) #[] #[.pointer (some ⟨W.heap.size, 0, none⟩)]] X (fun e w' => e = .returned (.int .i64 (placeI xs nm)) ∧ Below W.heap.size W w') from by
    rw [e]
    refine (firstWhere_any d A n c W.heap.size xs nm _ (hr.go (below_alloc _ _)) (RW.new _ _ _)).mono ?_
    rintro e w' ⟨rfl, hb⟩
    exact ⟨rfl, (below_alloc _ _).trans (hb.mono (by simp))⟩))
  clear hr
  generalize placeI xs nm = P at HQ ⊢
  go_enter Tryd.func57, Tryd.ntmps57
  go_wp2_with (go_at_call 77; refine Calls.mono (HQ.out _ rfl) ?_; rintro e w1 ⟨rfl, hb⟩; have HB1 := Lib.hid hb; clear hb)
  go_ret
  exact ⟨rfl, HB1.out⟩

set_option maxHeartbeats 4000000 in
set_option maxRecDepth 100000 in
theorem impl_ValidEnv_any (d : Nat) (A : Option Addr) (n c : Nat) (xs : List Nm) (W : World) (hr : NmI W 0 W.heap.size d A n xs) (hT : Classes W) (hF : Forms W) :
    Calls Tryd.prog 22 #[.slice A n c] W fun e w' => e = .returned (.bool (tt (EnvOk xs))) ∧ Below W.heap.size W w' := by
  have HR := Lib.hid hr
  have HT := Lib.hid hT
  have HF := Lib.hid hF
  have HL := Lib.hid hr.1
  have hn := hr.2.1
  unfold maxLen at hn
  obtain ⟨P, hP⟩ : ∃ P, tt (EnvOk xs) = P := ⟨_, rfl⟩
  have HP := Lib.hid hP
  rw [hP]
  clear hr hT hF hP
  by_cases h40 : n ≤ 40
  · have d0 : decide (40 < (n : Int)) = false := by simp; omega
    have H40 := Lib.hid h40
    go_enter Tryd.func22, Tryd.ntmps22
    go_wp2_with fail
    go_loopw [10] (fun i wr => ∃ k : Nat, k ≤ n ∧ i = .int .i64 k ∧ Hid (Below W.heap.size W wr) ∧ Hid (∀ (j : Nat) (x : Nm), j < k → xs[j]? = some x → isNameB x.name = true ∧ ValidP x.pt ∧ ∀ (i : Nat) (y : Nm), i < j → xs[i]? = some y → y.name ≠ x.name)) (fun i _ => n - (intOf i).toNat)
    case atStart => exact ⟨0, Nat.zero_le _, rfl, Below.refl _ _, Lib.hid (fun j y hj => absurd hj (by omega))⟩
    case round =>
      obtain ⟨k, hk, rfl, HW, HA⟩ := hrel
      by_cases hlt : k < n
      · obtain ⟨b, off, x, A1, n1, c1, rfl, _, hgb, hx, _, ⟨q0, q1, q2, q3, q4⟩, hv⟩ := (HR.out.go HW.out).at_ hlt
        have HX := Lib.hid hx
        have b0 : (0 : Int) ≤ (k : Int) := by omega
        have b1 : (k : Int) < (n : Int) := by omega
        have HS := Lib.hid hv.1
        have HPL := Lib.hid (place_lt hx)
        have HNM := Lib.hid (fun X (hX : Below W.heap.size W X) => impl_IsName_any x.name X hv.1 (classes_go HT.out hX))
        have HPN := Lib.hid (fun X (hX : Below W.heap.size W X) => placeOfName_any d (some ⟨b, off, none⟩) n c xs x.name X (HR.out.go hX))
        have HVP := Lib.hid (fun X (h1 : Below wr.heap.size wr X) (hX : Below W.heap.size W X) => impl_ValidPattern_any d x.pt A1 n1 c1 X (hv.pt.go h1) (classes_go HT.out hX) (HF.out.go hX))
        have HBX := Lib.hid (fun X (e : X = wr.alloc (.cells #[.string x.name, .int .i64 x.pt.k, .int .i64 x.pt.n, .string x.pt.t, .slice A1 n1 c1] 78)) => (show RW 78 X wr.heap.size #[.string x.name, .int .i64 x.pt.k, .int .i64 x.pt.n, .string x.pt.t, .slice A1 n1 c1] ∧ Below wr.heap.size wr X ∧ wr.heap.size < X.heap.size from by rw [e]; exact ⟨RW.new _ _ _, below_alloc _ _, lt_alloc _ _⟩))
        have HOK : Hid (isNameB x.name = true → decide (placeI xs x.name < (k : Int)) = false → tt (ValidP x.pt) = true → ∀ (j : Nat) (x : Nm), j < k + 1 → xs[j]? = some x → isNameB x.name = true ∧ ValidP x.pt ∧ ∀ (i : Nat) (y : Nm), i < j → xs[i]? = some y → y.name ≠ x.name) := by
          show _ → _
          intro h1 h2 h3 j y hj hy
          by_cases e : j = k
          · subst e
            rw [hx, Option.some.injEq] at hy
            subst hy
            refine ⟨h1, of_tt h3, ?_⟩
            by_cases hh : ∀ (i : Nat) (y : Nm), i < j → xs[i]? = some y → y.name ≠ x.name
            · exact hh
            · rw [HPL.out.2 hh] at h2
              cases h2
          · exact HA.out j y (by omega) hy
        have HNO : Hid ((isNameB x.name = true ∧ decide (placeI xs x.name < (k : Int)) = false ∧ tt (ValidP x.pt) = true → False) → P = false) := by
          show _ → _
          intro h
          rw [← HP.out]
          refine tt_false fun hE => h ?_
          obtain ⟨h1, h2, h3⟩ := hE.2 k x hx
          refine ⟨h1, ?_, tt_true h2⟩
          obtain ⟨z, hz⟩ : ∃ z, decide (placeI xs x.name < (k : Int)) = z := ⟨_, rfl⟩
          rw [hz]
          cases z
          · rfl
          · exact absurd h3 (HPL.out.1 hz)
        obtain ⟨zN, hN⟩ : ∃ z, isNameB x.name = z := ⟨_, rfl⟩
        obtain ⟨r, hrr⟩ : ∃ r, placeI xs x.name = r := ⟨_, rfl⟩
        obtain ⟨zV, hV⟩ : ∃ z, tt (ValidP x.pt) = z := ⟨_, rfl⟩
        rw [hN, hrr, hV] at HOK HNO
        have HN := Lib.hid hN
        have HRR := Lib.hid hrr
        have HVV := Lib.hid hV
        obtain ⟨zL, hL⟩ : ∃ z, decide (r < (k : Int)) = z := ⟨_, rfl⟩
        rw [hL] at HOK HNO
        obtain ⟨xn, xk, xm, xt, xks⟩ := x
        change wr.cell? ⟨b, off + k * 5, none⟩ = some (.string xn) at q0
        change wr.cell? ⟨b, off + k * 5 + 1, none⟩ = some (.int .i64 xk) at q1
        change wr.cell? ⟨b, off + k * 5 + 2, none⟩ = some (.int .i64 xm) at q2
        change wr.cell? ⟨b, off + k * 5 + 3, none⟩ = some (.string xt) at q3
        clear hx hgb hv hN hrr hV HPL
        have HWX := Lib.hid (fun X (h : Below wr.heap.size wr X) => (show Below W.heap.size W X from HW.out.trans (h.mono HW.out.size)))
        cases zN
        · have HF : Hid (P = false) := HNO.out (fun h => by cases h.1)
          go_wp2_with (first
            | (go_at_call 53; obtain ⟨g0, g1, g2⟩ := HBX.out _ rfl; refine Calls.mono (HNM.out _ (HWX.out _ g1)) ?_; rintro e w1 ⟨rfl, hb⟩; rw [HN.out]; have HR1 := Lib.hid (g0.below hb g2); have HB1 := Lib.hid (g1.trans (hb.mono g1.size)); have s10 : w1.cell? ⟨wr.heap.size, 0, none⟩ = some (.string xn) := HR1.out.cell 0; have s11 : w1.cell? ⟨wr.heap.size, 1, none⟩ = some (.int .i64 xk) := HR1.out.cell 1; have s12 : w1.cell? ⟨wr.heap.size, 2, none⟩ = some (.int .i64 xm) := HR1.out.cell 2; have s13 : w1.cell? ⟨wr.heap.size, 3, none⟩ = some (.string xt) := HR1.out.cell 3; have s14 : w1.cell? ⟨wr.heap.size, 4, none⟩ = some (.slice A1 n1 c1) := HR1.out.cell 4; clear g0 g1 g2 hb))
          go_ret
          exact ⟨by rw [HF.out]; rfl, HWX.out _ HB1.out⟩
        · cases zL
          · cases zV
            · have HF : Hid (P = false) := HNO.out (fun h => by cases h.2.2)
              go_wp2_with (first
                | (go_at_call 53; obtain ⟨g0, g1, g2⟩ := HBX.out _ rfl; refine Calls.mono (HNM.out _ (HWX.out _ g1)) ?_; rintro e w1 ⟨rfl, hb⟩; rw [HN.out]; have HR1 := Lib.hid (g0.below hb g2); have HB1 := Lib.hid (g1.trans (hb.mono g1.size)); have s10 : w1.cell? ⟨wr.heap.size, 0, none⟩ = some (.string xn) := HR1.out.cell 0; have s11 : w1.cell? ⟨wr.heap.size, 1, none⟩ = some (.int .i64 xk) := HR1.out.cell 1; have s12 : w1.cell? ⟨wr.heap.size, 2, none⟩ = some (.int .i64 xm) := HR1.out.cell 2; have s13 : w1.cell? ⟨wr.heap.size, 3, none⟩ = some (.string xt) := HR1.out.cell 3; have s14 : w1.cell? ⟨wr.heap.size, 4, none⟩ = some (.slice A1 n1 c1) := HR1.out.cell 4; clear g0 g1 g2 hb)
                | (go_at_call 57; refine Calls.mono (HPN.out _ (HWX.out _ HB1.out)) ?_; rintro e w2 ⟨rfl, hb⟩; rw [HRR.out]; have HR2 := Lib.hid (HR1.out.below hb HR1.out.lt); have HB2 := Lib.hid (HB1.out.trans (hb.mono HB1.out.size)); have s20 : w2.cell? ⟨wr.heap.size, 0, none⟩ = some (.string xn) := HR2.out.cell 0; have s21 : w2.cell? ⟨wr.heap.size, 1, none⟩ = some (.int .i64 xk) := HR2.out.cell 1; have s22 : w2.cell? ⟨wr.heap.size, 2, none⟩ = some (.int .i64 xm) := HR2.out.cell 2; have s23 : w2.cell? ⟨wr.heap.size, 3, none⟩ = some (.string xt) := HR2.out.cell 3; have s24 : w2.cell? ⟨wr.heap.size, 4, none⟩ = some (.slice A1 n1 c1) := HR2.out.cell 4; clear hb)
                | (go_at_call 13; refine Calls.mono (HVP.out _ HB2.out (HWX.out _ HB2.out)) ?_; rintro e w3 ⟨rfl, hb⟩; rw [HVV.out]; have HB3 := Lib.hid (HB2.out.trans (hb.mono HB2.out.size)); clear hb))
              go_ret
              exact ⟨by rw [HF.out]; rfl, HWX.out _ HB3.out⟩
            · have HOK2 := Lib.hid (HOK.out (by first | trivial | rfl) (by first | trivial | rfl) (by first | trivial | rfl))
              go_wp2_with (first
                | (go_at_call 53; obtain ⟨g0, g1, g2⟩ := HBX.out _ rfl; refine Calls.mono (HNM.out _ (HWX.out _ g1)) ?_; rintro e w1 ⟨rfl, hb⟩; rw [HN.out]; have HR1 := Lib.hid (g0.below hb g2); have HB1 := Lib.hid (g1.trans (hb.mono g1.size)); have s10 : w1.cell? ⟨wr.heap.size, 0, none⟩ = some (.string xn) := HR1.out.cell 0; have s11 : w1.cell? ⟨wr.heap.size, 1, none⟩ = some (.int .i64 xk) := HR1.out.cell 1; have s12 : w1.cell? ⟨wr.heap.size, 2, none⟩ = some (.int .i64 xm) := HR1.out.cell 2; have s13 : w1.cell? ⟨wr.heap.size, 3, none⟩ = some (.string xt) := HR1.out.cell 3; have s14 : w1.cell? ⟨wr.heap.size, 4, none⟩ = some (.slice A1 n1 c1) := HR1.out.cell 4; clear g0 g1 g2 hb)
                | (go_at_call 57; refine Calls.mono (HPN.out _ (HWX.out _ HB1.out)) ?_; rintro e w2 ⟨rfl, hb⟩; rw [HRR.out]; have HR2 := Lib.hid (HR1.out.below hb HR1.out.lt); have HB2 := Lib.hid (HB1.out.trans (hb.mono HB1.out.size)); have s20 : w2.cell? ⟨wr.heap.size, 0, none⟩ = some (.string xn) := HR2.out.cell 0; have s21 : w2.cell? ⟨wr.heap.size, 1, none⟩ = some (.int .i64 xk) := HR2.out.cell 1; have s22 : w2.cell? ⟨wr.heap.size, 2, none⟩ = some (.int .i64 xm) := HR2.out.cell 2; have s23 : w2.cell? ⟨wr.heap.size, 3, none⟩ = some (.string xt) := HR2.out.cell 3; have s24 : w2.cell? ⟨wr.heap.size, 4, none⟩ = some (.slice A1 n1 c1) := HR2.out.cell 4; clear hb)
                | (go_at_call 13; refine Calls.mono (HVP.out _ HB2.out (HWX.out _ HB2.out)) ?_; rintro e w3 ⟨rfl, hb⟩; rw [HVV.out]; have HB3 := Lib.hid (HB2.out.trans (hb.mono HB2.out.size)); clear hb))
              go_roundw
              case rel => exact ⟨k + 1, by omega, by go_num, Lib.hid (HWX.out _ HB3.out), HOK2⟩
              case measure => simp [intOf]; omega
          · have HF : Hid (P = false) := HNO.out (fun h => by cases h.2.1)
            go_wp2_with (first
              | (go_at_call 53; obtain ⟨g0, g1, g2⟩ := HBX.out _ rfl; refine Calls.mono (HNM.out _ (HWX.out _ g1)) ?_; rintro e w1 ⟨rfl, hb⟩; rw [HN.out]; have HR1 := Lib.hid (g0.below hb g2); have HB1 := Lib.hid (g1.trans (hb.mono g1.size)); have s10 : w1.cell? ⟨wr.heap.size, 0, none⟩ = some (.string xn) := HR1.out.cell 0; have s11 : w1.cell? ⟨wr.heap.size, 1, none⟩ = some (.int .i64 xk) := HR1.out.cell 1; have s12 : w1.cell? ⟨wr.heap.size, 2, none⟩ = some (.int .i64 xm) := HR1.out.cell 2; have s13 : w1.cell? ⟨wr.heap.size, 3, none⟩ = some (.string xt) := HR1.out.cell 3; have s14 : w1.cell? ⟨wr.heap.size, 4, none⟩ = some (.slice A1 n1 c1) := HR1.out.cell 4; clear g0 g1 g2 hb)
              | (go_at_call 57; refine Calls.mono (HPN.out _ (HWX.out _ HB1.out)) ?_; rintro e w2 ⟨rfl, hb⟩; rw [HRR.out]; have HR2 := Lib.hid (HR1.out.below hb HR1.out.lt); have HB2 := Lib.hid (HB1.out.trans (hb.mono HB1.out.size)); have s20 : w2.cell? ⟨wr.heap.size, 0, none⟩ = some (.string xn) := HR2.out.cell 0; have s21 : w2.cell? ⟨wr.heap.size, 1, none⟩ = some (.int .i64 xk) := HR2.out.cell 1; have s22 : w2.cell? ⟨wr.heap.size, 2, none⟩ = some (.int .i64 xm) := HR2.out.cell 2; have s23 : w2.cell? ⟨wr.heap.size, 3, none⟩ = some (.string xt) := HR2.out.cell 3; have s24 : w2.cell? ⟨wr.heap.size, 4, none⟩ = some (.slice A1 n1 c1) := HR2.out.cell 4; clear hb))
            go_ret
            exact ⟨by rw [HF.out]; rfl, HWX.out _ HB2.out⟩
      · have hkn : k = n := by omega
        have HT2 : Hid (P = true) := by
          show _ = _
          rw [← HP.out]
          refine tt_true ⟨by rw [HL.out]; exact H40.out, fun j x hx => HA.out j x ?_ hx⟩
          have h1 := (List.getElem?_eq_some_iff.1 hx).1
          have h2 := HL.out
          omega
        clear hkn
        go_wp2_with fail
        go_ret
        exact ⟨by rw [HT2.out]; rfl, HW.out⟩
  · have d0 : decide (40 < (n : Int)) = true := by simp; omega
    have HF2 : Hid (P = false) := by show _ = _; rw [← HP.out]; exact tt_false fun h => h40 (by rw [← HL.out]; exact h.1)
    clear h40
    go_enter Tryd.func22, Tryd.ntmps22
    go_wp2_with fail
    go_ret
    exact ⟨by rw [HF2.out]; rfl, Below.refl _ _⟩
end Go.Proofs.YtjeiiljdhnmofaaDoor
