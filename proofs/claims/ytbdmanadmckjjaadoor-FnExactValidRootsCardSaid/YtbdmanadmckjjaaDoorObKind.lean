/- Contracts: ofKind, ValidObject of the program. Condition of the second: the table holds what the program's text lays. -/
import Derived.Test.YtbdmanadmckjjaaDoorObHas
namespace Go.Proofs.YtbdmanadmckjjaaDoor
open Go Go.RowKit Go.Sort

/-- An object as one of its kind. -/
def kindV (o : Ob) (l : Lay) : Value := if o.kind = 1 then .iface 105 (o.ag l) else if o.kind = 2 then .iface 106 (o.ag l) else if o.kind = 3 then .iface 108 (o.ag l) else .nilIface
set_option maxHeartbeats 2000000 in
set_option maxRecDepth 100000 in
theorem ofKind_any (o : Ob) (l : Lay) (W : World) :
    Calls Tryd.prog 82 #[o.ag l] W fun e w' => e = .returned (kindV o l) ∧ Below W.heap.size W w' := by
  obtain ⟨id, kind, name, low, ks, vs, ⟨dk, dn, dt, dr⟩⟩ := o
  unfold kindV
  dsimp only
  show Calls Tryd.prog 82 #[.agg #[.int .i64 id, .int .i64 kind, .string name, .int .i64 low, .slice l.Ak l.nk l.ck, .slice l.Av l.nv l.cv, .int .i64 dk, .int .i64 dn, .string dt, .int .i64 dr]] W _

  by_cases k1 : kind = 1
  · subst k1
    simp only [if_true, if_pos, reduceIte, Int.reduceEq]
    go_enter Tryd.func82, Tryd.ntmps82
    go_wp2_with fail
    all_goals go_ret
    all_goals exact ⟨rfl, below_alloc _ _⟩

  by_cases k2 : kind = 2
  · subst k2
    simp only [if_true, if_pos, reduceIte, Int.reduceEq]
    go_enter Tryd.func82, Tryd.ntmps82
    go_wp2_with fail
    all_goals go_ret
    all_goals exact ⟨rfl, below_alloc _ _⟩

  by_cases k3 : kind = 3
  · subst k3
    simp only [if_true, if_pos, reduceIte, Int.reduceEq]
    go_enter Tryd.func82, Tryd.ntmps82
    go_wp2_with fail
    all_goals go_ret
    all_goals exact ⟨rfl, below_alloc _ _⟩

  rw [if_neg k1, if_neg k2, if_neg k3]
  have f1 : (kind == 1) = false := by simpa using k1
  have f2 : (kind == 2) = false := by simpa using k2
  have f3 : (kind == 3) = false := by simpa using k3
  clear k1 k2 k3
  go_enter Tryd.func82, Tryd.ntmps82
  go_wp2_with fail
  all_goals go_ret
  all_goals exact ⟨rfl, below_alloc _ _⟩


theorem method_array (o : Ob) (l : Lay) (w : World) : (method 239 105 (o.ag l) "loop.example/g00873/impl.hasValidFields").run Tryd.prog w = .ok (111, o.ag l) w := by kernel_rfl
theorem valid_bool1 (o : Ob) (h : o.kind = 1) : tt (ValidO o) = (decide (1 ≤ o.id ∧ o.id ≤ 1000000) && tt (ArrayO o)) := by
  rw [Bool.eq_iff_iff]
  simp only [Bool.and_eq_true, tt_iff, decide_eq_true_eq]
  unfold ValidO
  constructor
  · rintro ⟨a, ⟨k, b⟩ | ⟨k, b⟩ | ⟨k, b⟩⟩
    all_goals first | exact ⟨a, b⟩ | omega
  · rintro ⟨a, b⟩
    exact ⟨a, .inl ⟨h, b⟩⟩
set_option maxHeartbeats 4000000 in
set_option maxRecDepth 100000 in
theorem impl_ValidObject_1 (o : Ob) (l : Lay) (W : World) (ho : OV W W.heap.size o l) (hT : Classes W) (k1 : o.kind = 1) :
    Calls Tryd.prog 59 #[o.ag l] W fun e w' => e = .returned (.bool (tt (ValidO o))) ∧ Below W.heap.size W w' := by
  rw [valid_bool1 o k1]
  obtain ⟨I, hI⟩ : ∃ z, decide (1 ≤ o.id ∧ o.id ≤ 1000000) = z := ⟨_, rfl⟩
  obtain ⟨V, hV⟩ : ∃ z, tt (ArrayO o) = z := ⟨_, rfl⟩
  have HI := Lib.hid hI
  have HV := Lib.hid hV
  rw [hI, hV]
  clear hI hV
  have HO := Lib.hid ho
  have HT := Lib.hid hT
  have HK : Hid (kindV o l = .iface 105 (o.ag l)) := by show _ = _; unfold kindV; simp [k1]
  have HC := Lib.hid (one_new W 49 (o.vs l).toArray)
  have hm := method_array o l
  clear ho hT k1
  show Calls Tryd.prog 59 #[.agg #[.int .i64 o.id, .int .i64 o.kind, .string o.name, .int .i64 o.low, .slice l.Ak l.nk l.ck, .slice l.Av l.nv l.cv, .int .i64 o.d.k, .int .i64 o.d.n, .string o.d.t, .int .i64 o.d.r]] W _
  cases I
  · go_enter Tryd.func59, Tryd.ntmps59
    go_wp2_with (go_at_call 66; refine (within_i64 _ _ _ _).mono ?_; rintro e w' ⟨rfl, rfl⟩; rw [HI.out])
    go_ret
    exact ⟨rfl, below_alloc _ _⟩
  · cases V
    all_goals
      go_enter Tryd.func59, Tryd.ntmps59
      go_wp2_with (first
        | (go_at_call 66; refine (within_i64 _ _ _ _).mono ?_; rintro e w' ⟨rfl, rfl⟩; rw [HI.out])
        | (go_at_call 82; obtain ⟨g0, g1, g2⟩ := HC.out _ rfl; refine (ofKind_any o l _).mono ?_; rintro e w1 ⟨rfl, hb⟩; rw [HK.out]; have HB1 := Lib.hid (g1.trans (hb.mono g1.size)); clear g0 g1 g2 hb)
        | (go_at_call 111; have HQ := arrayFields_any o l _ (HO.out.go HB1.out) (classes_go HT.out HB1.out); refine Calls.mono HQ ?_; clear HQ; rintro e w2 ⟨rfl, hb⟩; rw [HV.out]; have HB2 := Lib.hid (HB1.out.trans (hb.mono HB1.out.size)); clear hb))
      all_goals go_ret
      all_goals exact ⟨rfl, HB2.out⟩

theorem method_table (o : Ob) (l : Lay) (w : World) : (method 239 106 (o.ag l) "loop.example/g00873/impl.hasValidFields").run Tryd.prog w = .ok (113, o.ag l) w := by kernel_rfl
theorem valid_bool2 (o : Ob) (h : o.kind = 2) : tt (ValidO o) = (decide (1 ≤ o.id ∧ o.id ≤ 1000000) && tt (TableO o)) := by
  rw [Bool.eq_iff_iff]
  simp only [Bool.and_eq_true, tt_iff, decide_eq_true_eq]
  unfold ValidO
  constructor
  · rintro ⟨a, ⟨k, b⟩ | ⟨k, b⟩ | ⟨k, b⟩⟩
    all_goals first | exact ⟨a, b⟩ | omega
  · rintro ⟨a, b⟩
    exact ⟨a, .inr (.inl ⟨h, b⟩)⟩
set_option maxHeartbeats 4000000 in
set_option maxRecDepth 100000 in
theorem impl_ValidObject_2 (o : Ob) (l : Lay) (W : World) (ho : OV W W.heap.size o l) (hT : Classes W) (k1 : o.kind = 2) :
    Calls Tryd.prog 59 #[o.ag l] W fun e w' => e = .returned (.bool (tt (ValidO o))) ∧ Below W.heap.size W w' := by
  rw [valid_bool2 o k1]
  obtain ⟨I, hI⟩ : ∃ z, decide (1 ≤ o.id ∧ o.id ≤ 1000000) = z := ⟨_, rfl⟩
  obtain ⟨V, hV⟩ : ∃ z, tt (TableO o) = z := ⟨_, rfl⟩
  have HI := Lib.hid hI
  have HV := Lib.hid hV
  rw [hI, hV]
  clear hI hV
  have HO := Lib.hid ho
  have HT := Lib.hid hT
  have HK : Hid (kindV o l = .iface 106 (o.ag l)) := by show _ = _; unfold kindV; simp [k1]
  have HC := Lib.hid (one_new W 49 (o.vs l).toArray)
  have hm := method_table o l
  clear ho hT k1
  show Calls Tryd.prog 59 #[.agg #[.int .i64 o.id, .int .i64 o.kind, .string o.name, .int .i64 o.low, .slice l.Ak l.nk l.ck, .slice l.Av l.nv l.cv, .int .i64 o.d.k, .int .i64 o.d.n, .string o.d.t, .int .i64 o.d.r]] W _
  cases I
  · go_enter Tryd.func59, Tryd.ntmps59
    go_wp2_with (go_at_call 66; refine (within_i64 _ _ _ _).mono ?_; rintro e w' ⟨rfl, rfl⟩; rw [HI.out])
    go_ret
    exact ⟨rfl, below_alloc _ _⟩
  · cases V
    all_goals
      go_enter Tryd.func59, Tryd.ntmps59
      go_wp2_with (first
        | (go_at_call 66; refine (within_i64 _ _ _ _).mono ?_; rintro e w' ⟨rfl, rfl⟩; rw [HI.out])
        | (go_at_call 82; obtain ⟨g0, g1, g2⟩ := HC.out _ rfl; refine (ofKind_any o l _).mono ?_; rintro e w1 ⟨rfl, hb⟩; rw [HK.out]; have HB1 := Lib.hid (g1.trans (hb.mono g1.size)); clear g0 g1 g2 hb)
        | (go_at_call 113; have HQ := tableFields_any o l _ (HO.out.go HB1.out) (classes_go HT.out HB1.out); refine Calls.mono HQ ?_; clear HQ; rintro e w2 ⟨rfl, hb⟩; rw [HV.out]; have HB2 := Lib.hid (HB1.out.trans (hb.mono HB1.out.size)); clear hb))
      all_goals go_ret
      all_goals exact ⟨rfl, HB2.out⟩

theorem method_record (o : Ob) (l : Lay) (w : World) : (method 239 108 (o.ag l) "loop.example/g00873/impl.hasValidFields").run Tryd.prog w = .ok (118, o.ag l) w := by kernel_rfl
theorem valid_bool3 (o : Ob) (h : o.kind = 3) : tt (ValidO o) = (decide (1 ≤ o.id ∧ o.id ≤ 1000000) && tt (RecordO o)) := by
  rw [Bool.eq_iff_iff]
  simp only [Bool.and_eq_true, tt_iff, decide_eq_true_eq]
  unfold ValidO
  constructor
  · rintro ⟨a, ⟨k, b⟩ | ⟨k, b⟩ | ⟨k, b⟩⟩
    all_goals first | exact ⟨a, b⟩ | omega
  · rintro ⟨a, b⟩
    exact ⟨a, .inr (.inr ⟨h, b⟩)⟩
set_option maxHeartbeats 4000000 in
set_option maxRecDepth 100000 in
theorem impl_ValidObject_3 (o : Ob) (l : Lay) (W : World) (ho : OV W W.heap.size o l) (hT : Classes W) (k1 : o.kind = 3) :
    Calls Tryd.prog 59 #[o.ag l] W fun e w' => e = .returned (.bool (tt (ValidO o))) ∧ Below W.heap.size W w' := by
  rw [valid_bool3 o k1]
  obtain ⟨I, hI⟩ : ∃ z, decide (1 ≤ o.id ∧ o.id ≤ 1000000) = z := ⟨_, rfl⟩
  obtain ⟨V, hV⟩ : ∃ z, tt (RecordO o) = z := ⟨_, rfl⟩
  have HI := Lib.hid hI
  have HV := Lib.hid hV
  rw [hI, hV]
  clear hI hV
  have HO := Lib.hid ho
  have HT := Lib.hid hT
  have HK : Hid (kindV o l = .iface 108 (o.ag l)) := by show _ = _; unfold kindV; simp [k1]
  have HC := Lib.hid (one_new W 49 (o.vs l).toArray)
  have hm := method_record o l
  clear ho hT k1
  show Calls Tryd.prog 59 #[.agg #[.int .i64 o.id, .int .i64 o.kind, .string o.name, .int .i64 o.low, .slice l.Ak l.nk l.ck, .slice l.Av l.nv l.cv, .int .i64 o.d.k, .int .i64 o.d.n, .string o.d.t, .int .i64 o.d.r]] W _
  cases I
  · go_enter Tryd.func59, Tryd.ntmps59
    go_wp2_with (go_at_call 66; refine (within_i64 _ _ _ _).mono ?_; rintro e w' ⟨rfl, rfl⟩; rw [HI.out])
    go_ret
    exact ⟨rfl, below_alloc _ _⟩
  · cases V
    all_goals
      go_enter Tryd.func59, Tryd.ntmps59
      go_wp2_with (first
        | (go_at_call 66; refine (within_i64 _ _ _ _).mono ?_; rintro e w' ⟨rfl, rfl⟩; rw [HI.out])
        | (go_at_call 82; obtain ⟨g0, g1, g2⟩ := HC.out _ rfl; refine (ofKind_any o l _).mono ?_; rintro e w1 ⟨rfl, hb⟩; rw [HK.out]; have HB1 := Lib.hid (g1.trans (hb.mono g1.size)); clear g0 g1 g2 hb)
        | (go_at_call 118; have HQ := recordFields_any o l _ (HO.out.go HB1.out) (classes_go HT.out HB1.out); refine Calls.mono HQ ?_; clear HQ; rintro e w2 ⟨rfl, hb⟩; rw [HV.out]; have HB2 := Lib.hid (HB1.out.trans (hb.mono HB1.out.size)); clear hb))
      all_goals go_ret
      all_goals exact ⟨rfl, HB2.out⟩

set_option maxHeartbeats 4000000 in
set_option maxRecDepth 100000 in
theorem impl_ValidObject_0 (o : Ob) (l : Lay) (W : World) (k1 : o.kind ≠ 1) (k2 : o.kind ≠ 2) (k3 : o.kind ≠ 3) :
    Calls Tryd.prog 59 #[o.ag l] W fun e w' => e = .returned (.bool (tt (ValidO o))) ∧ Below W.heap.size W w' := by
  rw [validO_0 o k1 k2 k3]
  obtain ⟨I, hI⟩ : ∃ z, decide (1 ≤ o.id ∧ o.id ≤ 1000000) = z := ⟨_, rfl⟩
  have HI := Lib.hid hI
  have HK : Hid (kindV o l = .nilIface) := by show _ = _; unfold kindV; rw [if_neg k1, if_neg k2, if_neg k3]
  have HC := Lib.hid (one_new W 49 (o.vs l).toArray)
  clear hI k1 k2 k3
  show Calls Tryd.prog 59 #[.agg #[.int .i64 o.id, .int .i64 o.kind, .string o.name, .int .i64 o.low, .slice l.Ak l.nk l.ck, .slice l.Av l.nv l.cv, .int .i64 o.d.k, .int .i64 o.d.n, .string o.d.t, .int .i64 o.d.r]] W _
  cases I
  · go_enter Tryd.func59, Tryd.ntmps59
    go_wp2_with (go_at_call 66; refine (within_i64 _ _ _ _).mono ?_; rintro e w' ⟨rfl, rfl⟩; rw [HI.out])
    go_ret
    exact ⟨rfl, below_alloc _ _⟩
  · go_enter Tryd.func59, Tryd.ntmps59
    go_wp2_with (first
      | (go_at_call 66; refine (within_i64 _ _ _ _).mono ?_; rintro e w' ⟨rfl, rfl⟩; rw [HI.out])
      | (go_at_call 82; obtain ⟨g0, g1, g2⟩ := HC.out _ rfl; refine (ofKind_any o l _).mono ?_; rintro e w1 ⟨rfl, hb⟩; rw [HK.out]; have HB1 := Lib.hid (g1.trans (hb.mono g1.size)); clear g0 g1 g2 hb))
    all_goals go_ret
    all_goals exact ⟨rfl, HB1.out⟩
theorem impl_ValidObject_any (o : Ob) (l : Lay) (W : World) (ho : OV W W.heap.size o l) (hT : Classes W) :
    Calls Tryd.prog 59 #[o.ag l] W fun e w' => e = .returned (.bool (tt (ValidO o))) ∧ Below W.heap.size W w' := by
  by_cases k1 : o.kind = 1
  · exact impl_ValidObject_1 o l W ho hT k1
  by_cases k2 : o.kind = 2
  · exact impl_ValidObject_2 o l W ho hT k2
  by_cases k3 : o.kind = 3
  · exact impl_ValidObject_3 o l W ho hT k3
  exact impl_ValidObject_0 o l W k1 k2 k3
end Go.Proofs.YtbdmanadmckjjaaDoor
