/- Contracts of the model: l07Find, l07IsRef, l07ObjectKind, l07Fits, l07FitAll. No condition but that the objects rise. -/
import Derived.Test.YtbdmanadmckjjaaDoorObNames
import Derived.Deep.QuietTactic
import Derived.BigQuiet
import Derived.Lib.QuietBelow
namespace Go.Proofs.YtbdmanadmckjjaaDoor
open Go Go.RowKit Go.Sort

/-- A heap behind a pointer. -/
def HPt (w : World) (g : Nat) (nx : Int) (A : Option Addr) (n c : Nat) (os : List Ob) : Prop := w.cell? ⟨g, 0, none⟩ = some (.int .i64 nx) ∧ w.cell? ⟨g, 1, none⟩ = some (.slice A n c) ∧ OI w w.heap.size A n os ∧ g < w.heap.size
theorem HPt.go {w w' : World} {g : Nat} {nx : Int} {A : Option Addr} {n c : Nat} {os : List Ob} (h : HPt w g nx A n c os) (hb : Below w.heap.size w w') : HPt w' g nx A n c os :=
  ⟨(hb.cell (p := ⟨g, 0, none⟩) h.2.2.2).trans h.1, (hb.cell (p := ⟨g, 1, none⟩) h.2.2.2).trans h.2.1, h.2.2.1.go hb, Nat.lt_of_lt_of_le h.2.2.2 hb.size⟩
/-- What l07Find answers. -/
def Found (os : List Ob) (id : Int) (f : Int) : Prop :=
  (∃ (k : Nat) (o : Ob), os[k]? = some o ∧ o.id = id ∧ f = (k : Int)) ∨ ((∀ (j : Nat) (o : Ob), os[j]? = some o → o.id ≠ id) ∧ f = -1)

set_option maxHeartbeats 1000000 in
set_option maxRecDepth 100000 in
theorem l07Find_any (g : Nat) (nx : Int) (A : Option Addr) (n c : Nat) (os : List Ob) (id : Int) (W : World) (h : HPt W g nx A n c os) :
    Calls Tryd.prog 50 #[.pointer (some ⟨g, 0, none⟩), .int .i64 id] W fun e w' => ∃ f, e = .returned (.int .i64 f) ∧ Hid (Found os id f) ∧ W = w' := by
  have H := Lib.hid h
  have hn := h.2.2.1.2.1
  have HN := Lib.hid h.2.2.1.1
  have s1 := h.2.1
  unfold maxLen at hn
  clear h
  go_enter Tryd.func50, Tryd.ntmps50
  go_wp2_with fail
  go_loopw [5] (fun i wr => ∃ k : Nat, k ≤ n ∧ i = .int .i64 k ∧ W = wr ∧ Hid (∀ (j : Nat) (o : Ob), j < k → os[j]? = some o → o.id ≠ id)) (fun i _ => n - (intOf i).toNat)
  case atStart => exact ⟨0, Nat.zero_le _, rfl, rfl, fun j x hj => absurd hj (by omega)⟩
  case round =>
    obtain ⟨k, hk, rfl, rfl, HV⟩ := hrel
    by_cases hlt : k < n
    · obtain ⟨b, off, o, l, rfl, hg, hx, ⟨q0, _⟩, _⟩ := H.out.2.2.1.at_ hlt
      have HX := Lib.hid hx
      have b0 : (0 : Int) ≤ (k : Int) := by omega
      have b1 : (k : Int) < (n : Int) := by omega
      clear hx hg
      by_cases he : o.id = id
      · have HE := Lib.hid he
        obtain ⟨y, hy⟩ : ∃ y, (o.id == id) = y := ⟨_, rfl⟩
        have hy2 : y = true := by rw [← hy]; simp [he]
        subst hy2
        clear he
        go_wp2_with fail
        go_ret
        exact ⟨_, rfl, Lib.hid (.inl ⟨k, o, HX.out, HE.out, rfl⟩), rfl⟩
      · have HE := Lib.hid he
        obtain ⟨y, hy⟩ : ∃ y, (o.id == id) = y := ⟨_, rfl⟩
        have hy2 : y = false := by rw [← hy]; simp [he]
        subst hy2
        clear he
        go_wp2_with fail
        go_roundw
        case rel =>
          refine ⟨k + 1, by omega, by go_num, by trivial, fun j y hj hy => ?_⟩
          by_cases e : j = k
          · subst e
            rw [HX.out, Option.some.injEq] at hy
            subst hy
            exact HE.out
          · exact HV.out j y (by omega) hy
        case measure => simp [intOf]; omega
    · have hkn : k = n := by omega
      have HA : Hid (∀ (j : Nat) (o : Ob), os[j]? = some o → o.id ≠ id) := by
        intro j x hx
        refine HV.out j x ?_ hx
        have := (List.getElem?_eq_some_iff.1 hx).1
        have := HN.out
        omega
      go_wp2_with fail
      go_ret
      exact ⟨_, rfl, Lib.hid (.inr ⟨HA.out, rfl⟩), rfl⟩

theorem l07IsRef_any (x : Vl) (W : World) :
    Calls Tryd.prog 69 #[x.ag] W fun e w' => e = .returned (.bool (decide (4 ≤ x.k ∧ x.k ≤ 6))) ∧ Below W.heap.size W w' := by
  obtain ⟨k, n, t, r⟩ := x
  obtain ⟨z, hz⟩ : ∃ z, decide (4 ≤ k ∧ k ≤ 6) = z := ⟨_, rfl⟩
  have HZ := Lib.hid hz
  show Calls Tryd.prog 69 #[.agg #[.int .i64 k, .int .i64 n, .string t, .int .i64 r]] W fun e w' => e = .returned (.bool (decide (4 ≤ k ∧ k ≤ 6))) ∧ Below W.heap.size W w'
  rw [hz]
  clear hz
  go_enter Tryd.func69, Tryd.ntmps69
  go_wp2_with (go_at_call 65; refine (l00In_any _ _ _ _).mono ?_; rintro e w' ⟨rfl, rfl⟩; rw [HZ.out])
  go_ret
  exact ⟨rfl, (Below.refl _ _).alloc (Nat.le_refl _) _⟩

theorem l07ObjectKind_any (k : Int) (h : 4 ≤ k ∧ k ≤ 6) (W : World) :
    Calls Tryd.prog 70 #[.int .i64 k] W fun e w' => e = .returned (.int .i64 (k - 3)) ∧ W = w' := by
  obtain rfl | rfl | rfl : k = 4 ∨ k = 5 ∨ k = 6 := by omega
  all_goals
    go_enter Tryd.func70, Tryd.ntmps70
    go_wp2
    all_goals go_ret
    all_goals exact ⟨rfl, rfl⟩

set_option maxHeartbeats 2000000 in
set_option maxRecDepth 100000 in
theorem l07Fits_any (g : Nat) (nx : Int) (A : Option Addr) (n c : Nat) (os : List Ob) (x : Vl) (W : World) (h : HPt W g nx A n c os) (hr : Rising os) (hx : x.t.size ≤ maxLen) :
    Calls Tryd.prog 44 #[.pointer (some ⟨g, 0, none⟩), x.ag] W fun e w' => e = .returned (.bool (tt (Fits os x))) ∧ Below W.heap.size W w' := by
  obtain ⟨P, hP⟩ : ∃ P, tt (Fits os x) = P := ⟨_, rfl⟩
  have HP := Lib.hid hP
  rw [hP]
  clear hP
  obtain ⟨k, m, t, r⟩ := x
  obtain ⟨v, hv⟩ : ∃ v, validV k m t r = v := ⟨_, rfl⟩
  have HV := Lib.hid hv
  obtain ⟨y, hy⟩ : ∃ y, decide (4 ≤ k ∧ k ≤ 6) = y := ⟨_, rfl⟩
  have HY := Lib.hid hy
  have H := Lib.hid h
  have HR := Lib.hid hr
  have HX := Lib.hid hx
  have HC := Lib.hid (one_new W 37 #[.int .i64 k, .int .i64 m, .string t, .int .i64 r])
  clear h hr hx hv
  show Calls Tryd.prog 44 #[.pointer (some ⟨g, 0, none⟩), .agg #[.int .i64 k, .int .i64 m, .string t, .int .i64 r]] W _
  cases v
  · have HF : Hid (P = false) := by
      show _ = _
      rw [← HP.out]
      exact tt_false fun h => by have := h.1; unfold Vl.valid at this; rw [HV.out] at this; cases this
    go_enter Tryd.func44, Tryd.ntmps44
    go_wp2_with (go_at_call 68; obtain ⟨g0, g1, g2⟩ := HC.out _ rfl; refine (spec_ValidValue_any _ _ _ _ _ HX.out).mono ?_; rintro e w1 ⟨rfl, hb⟩; rw [HV.out]; have HB1 := Lib.hid (g1.trans (hb.mono g1.size)); clear hb g0 g1 g2)
    go_ret
    exact ⟨by rw [HF.out]; rfl, HB1.out⟩
  cases y
  · have HT : Hid (P = true) := by
      show _ = _
      rw [← HP.out]
      exact tt_true ⟨HV.out, fun h => by have : (4 ≤ k ∧ k ≤ 6) := h; simp [this] at hy⟩
    clear hy
    go_enter Tryd.func44, Tryd.ntmps44
    go_wp2_with (first
      | (go_at_call 68; obtain ⟨g0, g1, g2⟩ := HC.out _ rfl; refine (spec_ValidValue_any _ _ _ _ _ HX.out).mono ?_; rintro e w1 ⟨rfl, hb⟩; rw [HV.out]; have HR1 := Lib.hid (g0.below hb g2); have HB1 := Lib.hid (g1.trans (hb.mono g1.size)); have q0 : w1.cell? ⟨W.heap.size, 0, none⟩ = some (.int .i64 k) := HR1.out.cell 0; have q1 : w1.cell? ⟨W.heap.size, 1, none⟩ = some (.int .i64 m) := HR1.out.cell 1; have q2 : w1.cell? ⟨W.heap.size, 2, none⟩ = some (.string t) := HR1.out.cell 2; have q3 : w1.cell? ⟨W.heap.size, 3, none⟩ = some (.int .i64 r) := HR1.out.cell 3; clear hb g0 g1 g2)
      | (go_at_call 69; refine (l07IsRef_any ⟨k, m, t, r⟩ _).mono ?_; rintro e w2 ⟨rfl, hb⟩; rw [show decide (4 ≤ (⟨k, m, t, r⟩ : Vl).k ∧ (⟨k, m, t, r⟩ : Vl).k ≤ 6) = false from HY.out]; have HB2 := Lib.hid (HB1.out.trans (hb.mono HB1.out.size)); clear hb))
    go_ret
    exact ⟨by rw [HT.out]; rfl, HB2.out⟩
  have HKK : Hid (4 ≤ k ∧ k ≤ 6) := by show _ ∧ _; simpa using hy
  clear hy
  go_enter Tryd.func44, Tryd.ntmps44
  go_wp2_with (first
    | (go_at_call 68; obtain ⟨g0, g1, g2⟩ := HC.out _ rfl; refine (spec_ValidValue_any _ _ _ _ _ HX.out).mono ?_; rintro e w1 ⟨rfl, hb⟩; rw [HV.out]; have HR1 := Lib.hid (g0.below hb g2); have HG1 : Hid (W.heap.size < w1.heap.size) := (Nat.lt_of_lt_of_le g2 hb.size); have HB1 := Lib.hid (g1.trans (hb.mono g1.size)); have q0 : w1.cell? ⟨W.heap.size, 0, none⟩ = some (.int .i64 k) := HR1.out.cell 0; have q1 : w1.cell? ⟨W.heap.size, 1, none⟩ = some (.int .i64 m) := HR1.out.cell 1; have q2 : w1.cell? ⟨W.heap.size, 2, none⟩ = some (.string t) := HR1.out.cell 2; have q3 : w1.cell? ⟨W.heap.size, 3, none⟩ = some (.int .i64 r) := HR1.out.cell 3; clear hb g0 g1 g2)
    | (go_at_call 69; refine (l07IsRef_any ⟨k, m, t, r⟩ _).mono ?_; rintro e w2 ⟨rfl, hb⟩; rw [show decide (4 ≤ (⟨k, m, t, r⟩ : Vl).k ∧ (⟨k, m, t, r⟩ : Vl).k ≤ 6) = true from HY.out]; have HR2 := Lib.hid (HR1.out.below hb HG1.out); have HB2 := Lib.hid (HB1.out.trans (hb.mono HB1.out.size)); have H2 := Lib.hid (H.out.go HB2.out); clear q0 q1 q2 q3; have q3 : w2.cell? ⟨W.heap.size, 3, none⟩ = some (.int .i64 r) := HR2.out.cell 3; clear hb)
    | (go_at_call 50; refine (l07Find_any g nx A n c os r _ H2.out).mono ?_; rintro e w3 ⟨f, rfl, HF, rfl⟩; have tk : True := trivial))
  have q0 : w2.cell? ⟨W.heap.size, 0, none⟩ = some (.int .i64 k) := HR2.out.cell 0
  rcases HF.out with ⟨j, o, ho, hid, hf⟩ | ⟨hno, hf⟩
  · have hj : j < n := by have := (List.getElem?_eq_some_iff.1 ho).1; have := H2.out.2.2.1.1; omega
    obtain ⟨b, off, o', l, hA, hg, hx, ⟨_, p1, _⟩, _⟩ := H2.out.2.2.1.at_ hj
    obtain rfl : o = o' := Option.some.inj (ho.symm.trans hx)
    subst hA
    have s1 := H2.out.2.1
    have hn := H2.out.2.2.1.2.1
    unfold maxLen at hn
    have HO := Lib.hid ho
    have HI := Lib.hid hid
    have b0 : (0 : Int) ≤ (j : Int) := by omega
    have b1 : (j : Int) < (n : Int) := by omega
    obtain ⟨z, hz⟩ : ∃ z, (o.kind == k - 3) = z := ⟨_, rfl⟩
    have hK := HKK.out
    have HPZ : Hid (P = z) := by
      show _ = _
      rw [← HP.out, ← hz, Bool.eq_iff_iff]
      simp only [tt_iff, beq_iff_eq]
      constructor
      · intro hfit
        obtain ⟨i, o2, h1, h2, h3⟩ := hfit.2 hK
        have h2' : o2.id = o.id := by rw [h2, hid]
        have := rising_inj HR.out h1 ho h2'
        subst this
        rw [ho, Option.some.injEq] at h1
        subst h1
        exact h3
      · exact fun h => ⟨HV.out, fun _ => ⟨j, o, ho, hid, h⟩⟩
    have x0 := cell_regrown q0
    have x1 := cell_regrown s1
    have x2 := cell_regrown p1
    have cK : ∀ d os', Calls Tryd.prog 70 #[.int .i64 k] (grow (redrawn w2 d) os') (fun e w'' => e = .returned (.int .i64 (k - 3)) ∧ ∃ q : Regrown, w'' = grow (redrawn w2 q.d) q.os) := fun d os' => (l07ObjectKind_any k hK _).mono fun e w' ⟨he, hw⟩ => ⟨he, ⟨d, os'⟩, hw.symm⟩
    subst hf
    clear ho hid hx hg hK q0 q3 s1 p1 hj
    refine wp_region_quiet_below (by kernel_rfl) (by kernel_rfl) ?_
    repeat (first | go_big_quiet_step (exact cK _ _) | quiet_step (exact cK _ _))
    refine wpQuiet_nil ?_
    intro w4 hw'
    obtain ⟨⟨dq, osq⟩, hw''⟩ := hw'
    have HB4 : Hid (Below W.heap.size W w4) := by show Below _ _ _; rw [hw'']; exact HB2.out.trans ((below_regrown w2 dq osq).mono HB2.out.size)
    clear hw''
    clear x0 x1 x2 cK
    go_wp2_with fail
    go_ret
    exact ⟨by rw [HPZ.out]; rfl, HB4.out⟩
  · have HF1 : Hid (P = false) := by
      show _ = _
      rw [← HP.out]
      refine tt_false fun hfit => ?_
      obtain ⟨i, o2, h1, h2, _⟩ := hfit.2 HKK.out
      exact hno i o2 h1 h2
    subst hf
    have x0 := cell_regrown q0
    clear hno q0 q3
    refine wp_region_quiet_below (by kernel_rfl) (by kernel_rfl) ?_
    repeat (first | go_big_quiet_step (fail) | quiet_step (fail))
    refine wpQuiet_nil ?_
    intro w4 hw'
    obtain ⟨⟨dq, osq⟩, hw''⟩ := hw'
    have HB4 : Hid (Below W.heap.size W w4) := by show Below _ _ _; rw [hw'']; exact HB2.out.trans ((below_regrown w2 dq osq).mono HB2.out.size)
    clear hw''
    clear x0
    go_wp2_with fail
    go_ret
    exact ⟨by rw [HF1.out]; rfl, HB4.out⟩
end Go.Proofs.YtbdmanadmckjjaaDoor
