/- Contracts: hasValidFields of the program's three kinds. Condition: the table holds what the program's text lays. -/
import Derived.Test.YtbdmanadmckjjaaDoorObFlds
import Derived.Test.YtbdmanadmckjjaaDoorObOk
namespace Go.Proofs.YtbdmanadmckjjaaDoor
open Go Go.RowKit Go.Sort

theorem array_bool (o : Ob) : tt (ArrayO o) = ((o.name.size == 0) && (decide (-1000 ≤ o.low ∧ o.low ≤ 1000) && ((o.d.k == 0) && ((o.d.n == 0) && ((o.d.t.size == 0) && ((o.d.r == 0) && (((o.keys.length : Int) == 0) && (decide ((o.vals.length : Int) ≤ 30) && tt (AllValid o.vals))))))))) := by
  rw [Bool.eq_iff_iff]
  simp only [Bool.and_eq_true, tt_iff, beq_iff_eq, decide_eq_true_eq]
  unfold ArrayO
  rw [zero_iff]
  constructor
  · rintro ⟨a, b, ⟨c1, c2, c3, c4⟩, d, e, f⟩
    exact ⟨a, b, c1, c2, c3, c4, by omega, by omega, f⟩
  · rintro ⟨a, b, c1, c2, c3, c4, d, e, f⟩
    exact ⟨a, b, ⟨c1, c2, c3, c4⟩, by omega, by omega, f⟩
theorem table_bool (o : Ob) : tt (TableO o) = ((o.name.size == 0) && ((o.low == 0) && (o.d.valid && (decide ((o.keys.length : Int) ≤ 30) && tt (o.keys.length = o.vals.length ∧ AllValid o.keys ∧ Distinct o.keys ∧ AllValid o.vals))))) := by
  rw [Bool.eq_iff_iff]
  simp only [Bool.and_eq_true, tt_iff, beq_iff_eq, decide_eq_true_eq]
  unfold TableO
  constructor
  · rintro ⟨a, b, c, d, e⟩
    exact ⟨a, b, c, by omega, e⟩
  · rintro ⟨a, b, c, d, e⟩
    exact ⟨a, b, c, by omega, e⟩
theorem record_bool (o : Ob) : tt (RecordO o) = (isNameB o.name && ((o.low == 0) && ((o.d.k == 0) && ((o.d.n == 0) && ((o.d.t.size == 0) && ((o.d.r == 0) && (decide (1 ≤ (o.keys.length : Int) ∧ (o.keys.length : Int) ≤ 6) && (tt (Names o.keys) && tt (o.keys.length = o.vals.length ∧ AllValid o.keys ∧ Distinct o.keys ∧ AllValid o.vals))))))))) := by
  rw [Bool.eq_iff_iff]
  simp only [Bool.and_eq_true, tt_iff, beq_iff_eq, decide_eq_true_eq]
  unfold RecordO
  rw [zero_iff]
  constructor
  · rintro ⟨a, b, ⟨c1, c2, c3, c4⟩, d, e, f⟩
    exact ⟨a, b, c1, c2, c3, c4, by omega, e, f⟩
  · rintro ⟨a, b, c1, c2, c3, c4, d, e, f⟩
    exact ⟨a, b, ⟨c1, c2, c3, c4⟩, by omega, e, f⟩


set_option maxHeartbeats 8000000 in
set_option maxRecDepth 100000 in
theorem arrayFields_any (o : Ob) (l : Lay) (W : World) (ho : OV W W.heap.size o l) (hT : Classes W) :
    Calls Tryd.prog 111 #[o.ag l] W fun e w' => e = .returned (.bool (tt (ArrayO o))) ∧ Below W.heap.size W w' := by
  rw [array_bool]
  obtain ⟨id, kind, name, low, ks, vs, ⟨dk, dn, dt, dr⟩⟩ := o
  obtain ⟨Ak, nk, ck, Av, nv, cv, hck, hcv⟩ := l
  obtain ⟨hk, hv, hn, hd⟩ := ho
  dsimp only at hk hv hn hd ⊢
  have HK := Lib.hid hk
  have HV := Lib.hid hv
  have HN := Lib.hid hn
  have HD := Lib.hid hd
  have HT := Lib.hid hT
  have HCK := Lib.hid hck
  have HC := Lib.hid (one_new W 105 #[.int .i64 id, .int .i64 kind, .string name, .int .i64 low, .slice Ak nk ck, .slice Av nv cv, .int .i64 dk, .int .i64 dn, .string dt, .int .i64 dr])
  have l1 := hk.1
  have l2 := hv.1
  clear hk hv hn hd hT
  show Calls Tryd.prog 111 #[.agg #[.int .i64 id, .int .i64 kind, .string name, .int .i64 low, .slice Ak nk ck, .slice Av nv cv, .int .i64 dk, .int .i64 dn, .string dt, .int .i64 dr]] W _
  obtain ⟨LOW, hLOW⟩ : ∃ z, decide (-1000 ≤ low ∧ low ≤ 1000) = z := ⟨_, rfl⟩
  have HLOW := Lib.hid hLOW
  obtain ⟨z7, hz7⟩ : ∃ z, (dk == 0) = z := ⟨_, rfl⟩
  obtain ⟨z8, hz8⟩ : ∃ z, (dn == 0) = z := ⟨_, rfl⟩
  obtain ⟨za, hza⟩ : ∃ z, (dr == 0) = z := ⟨_, rfl⟩
  obtain ⟨zk, hzk⟩ : ∃ z, ((ks.length : Int) == 0) = z := ⟨_, rfl⟩
  obtain ⟨v30, hv30⟩ : ∃ z, decide ((vs.length : Int) ≤ 30) = z := ⟨_, rfl⟩
  obtain ⟨AV, hAV⟩ : ∃ z, tt (AllValid vs) = z := ⟨_, rfl⟩
  have HAV := Lib.hid hAV
  rw [hLOW, hz7, hz8, hza, hzk, hv30, hAV]
  clear hLOW hAV
  try rw [l1] at hzk
  try rw [l2] at hv30
  try rw [l1] at hk30
  try (have HIN := (show Hid (decide (1 ≤ (nk : Int) ∧ (nk : Int) ≤ 6) = IN) from by rw [← l1]; exact HIN0.out))
  try (have HDV := (show Hid (validV dk dn dt dr = DV) from HDV0.out))
  clear l1 l2
  by_cases hn : ¬ name.size = 0
  · have hp : 0 < name.size := by omega
    have e1 := ne_nil_of_size hp
    have e2 := not_isEmpty_of_size hp
    rw [show (name.size == 0) = false from by simp [hn]]
    clear hn hp
    go_enter Tryd.func111, Tryd.ntmps111
    go_wp2_with (first | (go_at_call 66; refine (within_i64 _ _ _ _).mono ?_; rintro e w' ⟨rfl, rfl⟩; rw [HLOW.out]) | (go_at_call 112; obtain ⟨g0, g1, g2⟩ := HC.out _ rfl; have HQ := areValid_any Av nv cv vs _ (HV.out.go g1) (classes_go HT.out g1); refine Calls.mono HQ ?_; clear HQ; rintro e w1 ⟨rfl, hb⟩; rw [HAV.out]; have HR1 := Lib.hid (g0.below hb g2); have HB1 := Lib.hid (g1.trans (hb.mono g1.size)); have HG1 : Hid (W.heap.size < w1.heap.size) := (Nat.lt_of_lt_of_le g2 hb.size);  clear g0 g1 g2 hb))
    all_goals go_ret
    all_goals first | exact ⟨rfl, HB3.out⟩ | exact ⟨rfl, HB2.out⟩ | exact ⟨rfl, HB1.out⟩ | exact ⟨rfl, below_alloc _ _⟩
  replace hn : name.size = 0 := by omega
  have e1n := nil_of_size hn
  have e2n := isEmpty_of_size hn
  rw [show (name.size == 0) = true from by simp [hn]]
  clear hn
  cases LOW
  · go_enter Tryd.func111, Tryd.ntmps111
    go_wp2_with (first | (go_at_call 66; refine (within_i64 _ _ _ _).mono ?_; rintro e w' ⟨rfl, rfl⟩; rw [HLOW.out]) | (go_at_call 112; obtain ⟨g0, g1, g2⟩ := HC.out _ rfl; have HQ := areValid_any Av nv cv vs _ (HV.out.go g1) (classes_go HT.out g1); refine Calls.mono HQ ?_; clear HQ; rintro e w1 ⟨rfl, hb⟩; rw [HAV.out]; have HR1 := Lib.hid (g0.below hb g2); have HB1 := Lib.hid (g1.trans (hb.mono g1.size)); have HG1 : Hid (W.heap.size < w1.heap.size) := (Nat.lt_of_lt_of_le g2 hb.size);  clear g0 g1 g2 hb))
    all_goals go_ret
    all_goals first | exact ⟨rfl, HB3.out⟩ | exact ⟨rfl, HB2.out⟩ | exact ⟨rfl, HB1.out⟩ | exact ⟨rfl, below_alloc _ _⟩
  cases z7
  · go_enter Tryd.func111, Tryd.ntmps111
    go_wp2_with (first | (go_at_call 66; refine (within_i64 _ _ _ _).mono ?_; rintro e w' ⟨rfl, rfl⟩; rw [HLOW.out]) | (go_at_call 112; obtain ⟨g0, g1, g2⟩ := HC.out _ rfl; have HQ := areValid_any Av nv cv vs _ (HV.out.go g1) (classes_go HT.out g1); refine Calls.mono HQ ?_; clear HQ; rintro e w1 ⟨rfl, hb⟩; rw [HAV.out]; have HR1 := Lib.hid (g0.below hb g2); have HB1 := Lib.hid (g1.trans (hb.mono g1.size)); have HG1 : Hid (W.heap.size < w1.heap.size) := (Nat.lt_of_lt_of_le g2 hb.size);  clear g0 g1 g2 hb))
    all_goals go_ret
    all_goals first | exact ⟨rfl, HB3.out⟩ | exact ⟨rfl, HB2.out⟩ | exact ⟨rfl, HB1.out⟩ | exact ⟨rfl, below_alloc _ _⟩
  cases z8
  · go_enter Tryd.func111, Tryd.ntmps111
    go_wp2_with (first | (go_at_call 66; refine (within_i64 _ _ _ _).mono ?_; rintro e w' ⟨rfl, rfl⟩; rw [HLOW.out]) | (go_at_call 112; obtain ⟨g0, g1, g2⟩ := HC.out _ rfl; have HQ := areValid_any Av nv cv vs _ (HV.out.go g1) (classes_go HT.out g1); refine Calls.mono HQ ?_; clear HQ; rintro e w1 ⟨rfl, hb⟩; rw [HAV.out]; have HR1 := Lib.hid (g0.below hb g2); have HB1 := Lib.hid (g1.trans (hb.mono g1.size)); have HG1 : Hid (W.heap.size < w1.heap.size) := (Nat.lt_of_lt_of_le g2 hb.size);  clear g0 g1 g2 hb))
    all_goals go_ret
    all_goals first | exact ⟨rfl, HB3.out⟩ | exact ⟨rfl, HB2.out⟩ | exact ⟨rfl, HB1.out⟩ | exact ⟨rfl, below_alloc _ _⟩
  by_cases ht : ¬ dt.size = 0
  · have hp : 0 < dt.size := by omega
    have e1 := ne_nil_of_size hp
    have e2 := not_isEmpty_of_size hp
    rw [show (dt.size == 0) = false from by simp [ht]]
    clear ht hp
    go_enter Tryd.func111, Tryd.ntmps111
    go_wp2_with (first | (go_at_call 66; refine (within_i64 _ _ _ _).mono ?_; rintro e w' ⟨rfl, rfl⟩; rw [HLOW.out]) | (go_at_call 112; obtain ⟨g0, g1, g2⟩ := HC.out _ rfl; have HQ := areValid_any Av nv cv vs _ (HV.out.go g1) (classes_go HT.out g1); refine Calls.mono HQ ?_; clear HQ; rintro e w1 ⟨rfl, hb⟩; rw [HAV.out]; have HR1 := Lib.hid (g0.below hb g2); have HB1 := Lib.hid (g1.trans (hb.mono g1.size)); have HG1 : Hid (W.heap.size < w1.heap.size) := (Nat.lt_of_lt_of_le g2 hb.size);  clear g0 g1 g2 hb))
    all_goals go_ret
    all_goals first | exact ⟨rfl, HB3.out⟩ | exact ⟨rfl, HB2.out⟩ | exact ⟨rfl, HB1.out⟩ | exact ⟨rfl, below_alloc _ _⟩
  replace ht : dt.size = 0 := by omega
  have e1t := nil_of_size ht
  have e2t := isEmpty_of_size ht
  rw [show (dt.size == 0) = true from by simp [ht]]
  clear ht
  cases za
  · go_enter Tryd.func111, Tryd.ntmps111
    go_wp2_with (first | (go_at_call 66; refine (within_i64 _ _ _ _).mono ?_; rintro e w' ⟨rfl, rfl⟩; rw [HLOW.out]) | (go_at_call 112; obtain ⟨g0, g1, g2⟩ := HC.out _ rfl; have HQ := areValid_any Av nv cv vs _ (HV.out.go g1) (classes_go HT.out g1); refine Calls.mono HQ ?_; clear HQ; rintro e w1 ⟨rfl, hb⟩; rw [HAV.out]; have HR1 := Lib.hid (g0.below hb g2); have HB1 := Lib.hid (g1.trans (hb.mono g1.size)); have HG1 : Hid (W.heap.size < w1.heap.size) := (Nat.lt_of_lt_of_le g2 hb.size);  clear g0 g1 g2 hb))
    all_goals go_ret
    all_goals first | exact ⟨rfl, HB3.out⟩ | exact ⟨rfl, HB2.out⟩ | exact ⟨rfl, HB1.out⟩ | exact ⟨rfl, below_alloc _ _⟩
  cases zk
  · go_enter Tryd.func111, Tryd.ntmps111
    go_wp2_with (first | (go_at_call 66; refine (within_i64 _ _ _ _).mono ?_; rintro e w' ⟨rfl, rfl⟩; rw [HLOW.out]) | (go_at_call 112; obtain ⟨g0, g1, g2⟩ := HC.out _ rfl; have HQ := areValid_any Av nv cv vs _ (HV.out.go g1) (classes_go HT.out g1); refine Calls.mono HQ ?_; clear HQ; rintro e w1 ⟨rfl, hb⟩; rw [HAV.out]; have HR1 := Lib.hid (g0.below hb g2); have HB1 := Lib.hid (g1.trans (hb.mono g1.size)); have HG1 : Hid (W.heap.size < w1.heap.size) := (Nat.lt_of_lt_of_le g2 hb.size);  clear g0 g1 g2 hb))
    all_goals go_ret
    all_goals first | exact ⟨rfl, HB3.out⟩ | exact ⟨rfl, HB2.out⟩ | exact ⟨rfl, HB1.out⟩ | exact ⟨rfl, below_alloc _ _⟩
  cases v30
  · go_enter Tryd.func111, Tryd.ntmps111
    go_wp2_with (first | (go_at_call 66; refine (within_i64 _ _ _ _).mono ?_; rintro e w' ⟨rfl, rfl⟩; rw [HLOW.out]) | (go_at_call 112; obtain ⟨g0, g1, g2⟩ := HC.out _ rfl; have HQ := areValid_any Av nv cv vs _ (HV.out.go g1) (classes_go HT.out g1); refine Calls.mono HQ ?_; clear HQ; rintro e w1 ⟨rfl, hb⟩; rw [HAV.out]; have HR1 := Lib.hid (g0.below hb g2); have HB1 := Lib.hid (g1.trans (hb.mono g1.size)); have HG1 : Hid (W.heap.size < w1.heap.size) := (Nat.lt_of_lt_of_le g2 hb.size);  clear g0 g1 g2 hb))
    all_goals go_ret
    all_goals first | exact ⟨rfl, HB3.out⟩ | exact ⟨rfl, HB2.out⟩ | exact ⟨rfl, HB1.out⟩ | exact ⟨rfl, below_alloc _ _⟩
  cases AV
  · go_enter Tryd.func111, Tryd.ntmps111
    go_wp2_with (first | (go_at_call 66; refine (within_i64 _ _ _ _).mono ?_; rintro e w' ⟨rfl, rfl⟩; rw [HLOW.out]) | (go_at_call 112; obtain ⟨g0, g1, g2⟩ := HC.out _ rfl; have HQ := areValid_any Av nv cv vs _ (HV.out.go g1) (classes_go HT.out g1); refine Calls.mono HQ ?_; clear HQ; rintro e w1 ⟨rfl, hb⟩; rw [HAV.out]; have HR1 := Lib.hid (g0.below hb g2); have HB1 := Lib.hid (g1.trans (hb.mono g1.size)); have HG1 : Hid (W.heap.size < w1.heap.size) := (Nat.lt_of_lt_of_le g2 hb.size);  clear g0 g1 g2 hb))
    all_goals go_ret
    all_goals first | exact ⟨rfl, HB3.out⟩ | exact ⟨rfl, HB2.out⟩ | exact ⟨rfl, HB1.out⟩ | exact ⟨rfl, below_alloc _ _⟩
  go_enter Tryd.func111, Tryd.ntmps111
  go_wp2_with (first | (go_at_call 66; refine (within_i64 _ _ _ _).mono ?_; rintro e w' ⟨rfl, rfl⟩; rw [HLOW.out]) | (go_at_call 112; obtain ⟨g0, g1, g2⟩ := HC.out _ rfl; have HQ := areValid_any Av nv cv vs _ (HV.out.go g1) (classes_go HT.out g1); refine Calls.mono HQ ?_; clear HQ; rintro e w1 ⟨rfl, hb⟩; rw [HAV.out]; have HR1 := Lib.hid (g0.below hb g2); have HB1 := Lib.hid (g1.trans (hb.mono g1.size)); have HG1 : Hid (W.heap.size < w1.heap.size) := (Nat.lt_of_lt_of_le g2 hb.size);  clear g0 g1 g2 hb))
  all_goals go_ret
  all_goals first | exact ⟨rfl, HB3.out⟩ | exact ⟨rfl, HB2.out⟩ | exact ⟨rfl, HB1.out⟩ | exact ⟨rfl, below_alloc _ _⟩

set_option maxHeartbeats 8000000 in
set_option maxRecDepth 100000 in
theorem tableFields_any (o : Ob) (l : Lay) (W : World) (ho : OV W W.heap.size o l) (hT : Classes W) :
    Calls Tryd.prog 113 #[o.ag l] W fun e w' => e = .returned (.bool (tt (TableO o))) ∧ Below W.heap.size W w' := by
  rw [table_bool]
  obtain ⟨id, kind, name, low, ks, vs, ⟨dk, dn, dt, dr⟩⟩ := o
  obtain ⟨Ak, nk, ck, Av, nv, cv, hck, hcv⟩ := l
  obtain ⟨hk, hv, hn, hd⟩ := ho
  dsimp only at hk hv hn hd ⊢
  have HK := Lib.hid hk
  have HV := Lib.hid hv
  have HN := Lib.hid hn
  have HD := Lib.hid hd
  have HT := Lib.hid hT
  have HCK := Lib.hid hck
  have HC := Lib.hid (one_new W 106 #[.int .i64 id, .int .i64 kind, .string name, .int .i64 low, .slice Ak nk ck, .slice Av nv cv, .int .i64 dk, .int .i64 dn, .string dt, .int .i64 dr])
  have l1 := hk.1
  have l2 := hv.1
  clear hk hv hn hd hT
  show Calls Tryd.prog 113 #[.agg #[.int .i64 id, .int .i64 kind, .string name, .int .i64 low, .slice Ak nk ck, .slice Av nv cv, .int .i64 dk, .int .i64 dn, .string dt, .int .i64 dr]] W _
  obtain ⟨zl, hzl⟩ : ∃ z, (low == 0) = z := ⟨_, rfl⟩
  obtain ⟨DV, hDV⟩ : ∃ z, Vl.valid ⟨dk, dn, dt, dr⟩ = z := ⟨_, rfl⟩
  have HDV0 := Lib.hid hDV
  obtain ⟨k30, hk30⟩ : ∃ z, decide ((ks.length : Int) ≤ 30) = z := ⟨_, rfl⟩
  obtain ⟨PR, hPR⟩ : ∃ z, tt (ks.length = vs.length ∧ AllValid ks ∧ Distinct ks ∧ AllValid vs) = z := ⟨_, rfl⟩
  have HPR := Lib.hid hPR
  rw [hzl, hDV, hk30, hPR]
  clear hDV hPR
  try rw [l1] at hzk
  try rw [l2] at hv30
  try rw [l1] at hk30
  try (have HIN := (show Hid (decide (1 ≤ (nk : Int) ∧ (nk : Int) ≤ 6) = IN) from by rw [← l1]; exact HIN0.out))
  try (have HDV := (show Hid (validV dk dn dt dr = DV) from HDV0.out))
  clear l1 l2
  by_cases hn : ¬ name.size = 0
  · have hp : 0 < name.size := by omega
    have e1 := ne_nil_of_size hp
    have e2 := not_isEmpty_of_size hp
    rw [show (name.size == 0) = false from by simp [hn]]
    clear hn hp
    go_enter Tryd.func113, Tryd.ntmps113
    go_wp2_with (first | (go_at_call 72; obtain ⟨g0, g1, g2⟩ := HC.out _ rfl; have HQ := impl_ValidValue_any dk dn dt dr _ HD.out (classes_go HT.out g1); refine Calls.mono HQ ?_; clear HQ; rintro e w1 ⟨rfl, hb⟩; rw [HDV.out]; have HR1 := Lib.hid (g0.below hb g2); have HB1 := Lib.hid (g1.trans (hb.mono g1.size)); have HG1 : Hid (W.heap.size < w1.heap.size) := (Nat.lt_of_lt_of_le g2 hb.size); have q4 : w1.cell? ⟨W.heap.size, 4, none⟩ = some (.slice Ak nk ck) := HR1.out.cell 4; have q5 : w1.cell? ⟨W.heap.size, 5, none⟩ = some (.slice Av nv cv) := HR1.out.cell 5; clear g0 g1 g2 hb) | (go_at_call 114; have HQ := arePairs_any Ak nk ck ks Av nv cv vs w1 (HK.out.go HB1.out) (HV.out.go HB1.out) HCK.out (classes_go HT.out HB1.out); refine Calls.mono HQ ?_; clear HQ; rintro e w2 ⟨rfl, hb⟩; rw [HPR.out]; have HB2 := Lib.hid (HB1.out.trans (hb.mono HB1.out.size)); clear hb))
    all_goals go_ret
    all_goals first | exact ⟨rfl, HB3.out⟩ | exact ⟨rfl, HB2.out⟩ | exact ⟨rfl, HB1.out⟩ | exact ⟨rfl, below_alloc _ _⟩
  replace hn : name.size = 0 := by omega
  have e1n := nil_of_size hn
  have e2n := isEmpty_of_size hn
  rw [show (name.size == 0) = true from by simp [hn]]
  clear hn
  cases zl
  · go_enter Tryd.func113, Tryd.ntmps113
    go_wp2_with (first | (go_at_call 72; obtain ⟨g0, g1, g2⟩ := HC.out _ rfl; have HQ := impl_ValidValue_any dk dn dt dr _ HD.out (classes_go HT.out g1); refine Calls.mono HQ ?_; clear HQ; rintro e w1 ⟨rfl, hb⟩; rw [HDV.out]; have HR1 := Lib.hid (g0.below hb g2); have HB1 := Lib.hid (g1.trans (hb.mono g1.size)); have HG1 : Hid (W.heap.size < w1.heap.size) := (Nat.lt_of_lt_of_le g2 hb.size); have q4 : w1.cell? ⟨W.heap.size, 4, none⟩ = some (.slice Ak nk ck) := HR1.out.cell 4; have q5 : w1.cell? ⟨W.heap.size, 5, none⟩ = some (.slice Av nv cv) := HR1.out.cell 5; clear g0 g1 g2 hb) | (go_at_call 114; have HQ := arePairs_any Ak nk ck ks Av nv cv vs w1 (HK.out.go HB1.out) (HV.out.go HB1.out) HCK.out (classes_go HT.out HB1.out); refine Calls.mono HQ ?_; clear HQ; rintro e w2 ⟨rfl, hb⟩; rw [HPR.out]; have HB2 := Lib.hid (HB1.out.trans (hb.mono HB1.out.size)); clear hb))
    all_goals go_ret
    all_goals first | exact ⟨rfl, HB3.out⟩ | exact ⟨rfl, HB2.out⟩ | exact ⟨rfl, HB1.out⟩ | exact ⟨rfl, below_alloc _ _⟩
  cases DV
  · go_enter Tryd.func113, Tryd.ntmps113
    go_wp2_with (first | (go_at_call 72; obtain ⟨g0, g1, g2⟩ := HC.out _ rfl; have HQ := impl_ValidValue_any dk dn dt dr _ HD.out (classes_go HT.out g1); refine Calls.mono HQ ?_; clear HQ; rintro e w1 ⟨rfl, hb⟩; rw [HDV.out]; have HR1 := Lib.hid (g0.below hb g2); have HB1 := Lib.hid (g1.trans (hb.mono g1.size)); have HG1 : Hid (W.heap.size < w1.heap.size) := (Nat.lt_of_lt_of_le g2 hb.size); have q4 : w1.cell? ⟨W.heap.size, 4, none⟩ = some (.slice Ak nk ck) := HR1.out.cell 4; have q5 : w1.cell? ⟨W.heap.size, 5, none⟩ = some (.slice Av nv cv) := HR1.out.cell 5; clear g0 g1 g2 hb) | (go_at_call 114; have HQ := arePairs_any Ak nk ck ks Av nv cv vs w1 (HK.out.go HB1.out) (HV.out.go HB1.out) HCK.out (classes_go HT.out HB1.out); refine Calls.mono HQ ?_; clear HQ; rintro e w2 ⟨rfl, hb⟩; rw [HPR.out]; have HB2 := Lib.hid (HB1.out.trans (hb.mono HB1.out.size)); clear hb))
    all_goals go_ret
    all_goals first | exact ⟨rfl, HB3.out⟩ | exact ⟨rfl, HB2.out⟩ | exact ⟨rfl, HB1.out⟩ | exact ⟨rfl, below_alloc _ _⟩
  cases k30
  · go_enter Tryd.func113, Tryd.ntmps113
    go_wp2_with (first | (go_at_call 72; obtain ⟨g0, g1, g2⟩ := HC.out _ rfl; have HQ := impl_ValidValue_any dk dn dt dr _ HD.out (classes_go HT.out g1); refine Calls.mono HQ ?_; clear HQ; rintro e w1 ⟨rfl, hb⟩; rw [HDV.out]; have HR1 := Lib.hid (g0.below hb g2); have HB1 := Lib.hid (g1.trans (hb.mono g1.size)); have HG1 : Hid (W.heap.size < w1.heap.size) := (Nat.lt_of_lt_of_le g2 hb.size); have q4 : w1.cell? ⟨W.heap.size, 4, none⟩ = some (.slice Ak nk ck) := HR1.out.cell 4; have q5 : w1.cell? ⟨W.heap.size, 5, none⟩ = some (.slice Av nv cv) := HR1.out.cell 5; clear g0 g1 g2 hb) | (go_at_call 114; have HQ := arePairs_any Ak nk ck ks Av nv cv vs w1 (HK.out.go HB1.out) (HV.out.go HB1.out) HCK.out (classes_go HT.out HB1.out); refine Calls.mono HQ ?_; clear HQ; rintro e w2 ⟨rfl, hb⟩; rw [HPR.out]; have HB2 := Lib.hid (HB1.out.trans (hb.mono HB1.out.size)); clear hb))
    all_goals go_ret
    all_goals first | exact ⟨rfl, HB3.out⟩ | exact ⟨rfl, HB2.out⟩ | exact ⟨rfl, HB1.out⟩ | exact ⟨rfl, below_alloc _ _⟩
  cases PR
  · go_enter Tryd.func113, Tryd.ntmps113
    go_wp2_with (first | (go_at_call 72; obtain ⟨g0, g1, g2⟩ := HC.out _ rfl; have HQ := impl_ValidValue_any dk dn dt dr _ HD.out (classes_go HT.out g1); refine Calls.mono HQ ?_; clear HQ; rintro e w1 ⟨rfl, hb⟩; rw [HDV.out]; have HR1 := Lib.hid (g0.below hb g2); have HB1 := Lib.hid (g1.trans (hb.mono g1.size)); have HG1 : Hid (W.heap.size < w1.heap.size) := (Nat.lt_of_lt_of_le g2 hb.size); have q4 : w1.cell? ⟨W.heap.size, 4, none⟩ = some (.slice Ak nk ck) := HR1.out.cell 4; have q5 : w1.cell? ⟨W.heap.size, 5, none⟩ = some (.slice Av nv cv) := HR1.out.cell 5; clear g0 g1 g2 hb) | (go_at_call 114; have HQ := arePairs_any Ak nk ck ks Av nv cv vs w1 (HK.out.go HB1.out) (HV.out.go HB1.out) HCK.out (classes_go HT.out HB1.out); refine Calls.mono HQ ?_; clear HQ; rintro e w2 ⟨rfl, hb⟩; rw [HPR.out]; have HB2 := Lib.hid (HB1.out.trans (hb.mono HB1.out.size)); clear hb))
    all_goals go_ret
    all_goals first | exact ⟨rfl, HB3.out⟩ | exact ⟨rfl, HB2.out⟩ | exact ⟨rfl, HB1.out⟩ | exact ⟨rfl, below_alloc _ _⟩
  go_enter Tryd.func113, Tryd.ntmps113
  go_wp2_with (first | (go_at_call 72; obtain ⟨g0, g1, g2⟩ := HC.out _ rfl; have HQ := impl_ValidValue_any dk dn dt dr _ HD.out (classes_go HT.out g1); refine Calls.mono HQ ?_; clear HQ; rintro e w1 ⟨rfl, hb⟩; rw [HDV.out]; have HR1 := Lib.hid (g0.below hb g2); have HB1 := Lib.hid (g1.trans (hb.mono g1.size)); have HG1 : Hid (W.heap.size < w1.heap.size) := (Nat.lt_of_lt_of_le g2 hb.size); have q4 : w1.cell? ⟨W.heap.size, 4, none⟩ = some (.slice Ak nk ck) := HR1.out.cell 4; have q5 : w1.cell? ⟨W.heap.size, 5, none⟩ = some (.slice Av nv cv) := HR1.out.cell 5; clear g0 g1 g2 hb) | (go_at_call 114; have HQ := arePairs_any Ak nk ck ks Av nv cv vs w1 (HK.out.go HB1.out) (HV.out.go HB1.out) HCK.out (classes_go HT.out HB1.out); refine Calls.mono HQ ?_; clear HQ; rintro e w2 ⟨rfl, hb⟩; rw [HPR.out]; have HB2 := Lib.hid (HB1.out.trans (hb.mono HB1.out.size)); clear hb))
  all_goals go_ret
  all_goals first | exact ⟨rfl, HB3.out⟩ | exact ⟨rfl, HB2.out⟩ | exact ⟨rfl, HB1.out⟩ | exact ⟨rfl, below_alloc _ _⟩

set_option maxHeartbeats 8000000 in
set_option maxRecDepth 100000 in
theorem recordFields_any (o : Ob) (l : Lay) (W : World) (ho : OV W W.heap.size o l) (hT : Classes W) :
    Calls Tryd.prog 118 #[o.ag l] W fun e w' => e = .returned (.bool (tt (RecordO o))) ∧ Below W.heap.size W w' := by
  rw [record_bool]
  obtain ⟨id, kind, name, low, ks, vs, ⟨dk, dn, dt, dr⟩⟩ := o
  obtain ⟨Ak, nk, ck, Av, nv, cv, hck, hcv⟩ := l
  obtain ⟨hk, hv, hn, hd⟩ := ho
  dsimp only at hk hv hn hd ⊢
  have HK := Lib.hid hk
  have HV := Lib.hid hv
  have HN := Lib.hid hn
  have HD := Lib.hid hd
  have HT := Lib.hid hT
  have HCK := Lib.hid hck
  have HC := Lib.hid (one_new W 108 #[.int .i64 id, .int .i64 kind, .string name, .int .i64 low, .slice Ak nk ck, .slice Av nv cv, .int .i64 dk, .int .i64 dn, .string dt, .int .i64 dr])
  have l1 := hk.1
  have l2 := hv.1
  clear hk hv hn hd hT
  show Calls Tryd.prog 118 #[.agg #[.int .i64 id, .int .i64 kind, .string name, .int .i64 low, .slice Ak nk ck, .slice Av nv cv, .int .i64 dk, .int .i64 dn, .string dt, .int .i64 dr]] W _
  obtain ⟨NM, hNM⟩ : ∃ z, isNameB name = z := ⟨_, rfl⟩
  have HNM := Lib.hid hNM
  obtain ⟨zl, hzl⟩ : ∃ z, (low == 0) = z := ⟨_, rfl⟩
  obtain ⟨z7, hz7⟩ : ∃ z, (dk == 0) = z := ⟨_, rfl⟩
  obtain ⟨z8, hz8⟩ : ∃ z, (dn == 0) = z := ⟨_, rfl⟩
  obtain ⟨za, hza⟩ : ∃ z, (dr == 0) = z := ⟨_, rfl⟩
  obtain ⟨IN, hIN⟩ : ∃ z, decide (1 ≤ (ks.length : Int) ∧ (ks.length : Int) ≤ 6) = z := ⟨_, rfl⟩
  have HIN0 := Lib.hid hIN
  obtain ⟨FN, hFN⟩ : ∃ z, tt (Names ks) = z := ⟨_, rfl⟩
  have HFN := Lib.hid hFN
  obtain ⟨PR, hPR⟩ : ∃ z, tt (ks.length = vs.length ∧ AllValid ks ∧ Distinct ks ∧ AllValid vs) = z := ⟨_, rfl⟩
  have HPR := Lib.hid hPR
  rw [hNM, hzl, hz7, hz8, hza, hIN, hFN, hPR]
  clear hNM hIN hFN hPR
  try rw [l1] at hzk
  try rw [l2] at hv30
  try rw [l1] at hk30
  try (have HIN := (show Hid (decide (1 ≤ (nk : Int) ∧ (nk : Int) ≤ 6) = IN) from by rw [← l1]; exact HIN0.out))
  try (have HDV := (show Hid (validV dk dn dt dr = DV) from HDV0.out))
  clear l1 l2
  cases NM
  · go_enter Tryd.func118, Tryd.ntmps118
    go_wp2_with (first | (go_at_call 87; obtain ⟨g0, g1, g2⟩ := HC.out _ rfl; have HQ := impl_IsName_any name _ HN.out (classes_go HT.out g1); refine Calls.mono HQ ?_; clear HQ; rintro e w1 ⟨rfl, hb⟩; rw [HNM.out]; have HR1 := Lib.hid (g0.below hb g2); have HB1 := Lib.hid (g1.trans (hb.mono g1.size)); have HG1 : Hid (W.heap.size < w1.heap.size) := (Nat.lt_of_lt_of_le g2 hb.size); have q3 : w1.cell? ⟨W.heap.size, 3, none⟩ = some (.int .i64 low) := HR1.out.cell 3; have q4 : w1.cell? ⟨W.heap.size, 4, none⟩ = some (.slice Ak nk ck) := HR1.out.cell 4; have q5 : w1.cell? ⟨W.heap.size, 5, none⟩ = some (.slice Av nv cv) := HR1.out.cell 5; have q6 : w1.cell? ⟨W.heap.size, 6, none⟩ = some (.int .i64 dk) := HR1.out.cell 6; have q7 : w1.cell? ⟨W.heap.size, 7, none⟩ = some (.int .i64 dn) := HR1.out.cell 7; have q8 : w1.cell? ⟨W.heap.size, 8, none⟩ = some (.string dt) := HR1.out.cell 8; have q9 : w1.cell? ⟨W.heap.size, 9, none⟩ = some (.int .i64 dr) := HR1.out.cell 9; clear g0 g1 g2 hb) | (go_at_call 86; refine (within_int _ _ _ _).mono ?_; rintro e w' ⟨rfl, rfl⟩; rw [HIN.out]) | (go_at_call 119; have HQ := areFieldNames_any Ak nk ck ks w1 (HK.out.go HB1.out) (classes_go HT.out HB1.out); refine Calls.mono HQ ?_; clear HQ q3 q4 q5 q6 q7 q8 q9; rintro e w2 ⟨rfl, hb⟩; rw [HFN.out]; have HR2 := Lib.hid (HR1.out.below hb HG1.out); have HB2 := Lib.hid (HB1.out.trans (hb.mono HB1.out.size)); have q4 : w2.cell? ⟨W.heap.size, 4, none⟩ = some (.slice Ak nk ck) := HR2.out.cell 4; have q5 : w2.cell? ⟨W.heap.size, 5, none⟩ = some (.slice Av nv cv) := HR2.out.cell 5; clear hb) | (go_at_call 114; have HQ := arePairs_any Ak nk ck ks Av nv cv vs w2 (HK.out.go HB2.out) (HV.out.go HB2.out) HCK.out (classes_go HT.out HB2.out); refine Calls.mono HQ ?_; clear HQ; rintro e w3 ⟨rfl, hb⟩; rw [HPR.out]; have HB3 := Lib.hid (HB2.out.trans (hb.mono HB2.out.size)); clear hb))
    all_goals go_ret
    all_goals first | exact ⟨rfl, HB3.out⟩ | exact ⟨rfl, HB2.out⟩ | exact ⟨rfl, HB1.out⟩ | exact ⟨rfl, below_alloc _ _⟩
  cases zl
  · go_enter Tryd.func118, Tryd.ntmps118
    go_wp2_with (first | (go_at_call 87; obtain ⟨g0, g1, g2⟩ := HC.out _ rfl; have HQ := impl_IsName_any name _ HN.out (classes_go HT.out g1); refine Calls.mono HQ ?_; clear HQ; rintro e w1 ⟨rfl, hb⟩; rw [HNM.out]; have HR1 := Lib.hid (g0.below hb g2); have HB1 := Lib.hid (g1.trans (hb.mono g1.size)); have HG1 : Hid (W.heap.size < w1.heap.size) := (Nat.lt_of_lt_of_le g2 hb.size); have q3 : w1.cell? ⟨W.heap.size, 3, none⟩ = some (.int .i64 low) := HR1.out.cell 3; have q4 : w1.cell? ⟨W.heap.size, 4, none⟩ = some (.slice Ak nk ck) := HR1.out.cell 4; have q5 : w1.cell? ⟨W.heap.size, 5, none⟩ = some (.slice Av nv cv) := HR1.out.cell 5; have q6 : w1.cell? ⟨W.heap.size, 6, none⟩ = some (.int .i64 dk) := HR1.out.cell 6; have q7 : w1.cell? ⟨W.heap.size, 7, none⟩ = some (.int .i64 dn) := HR1.out.cell 7; have q8 : w1.cell? ⟨W.heap.size, 8, none⟩ = some (.string dt) := HR1.out.cell 8; have q9 : w1.cell? ⟨W.heap.size, 9, none⟩ = some (.int .i64 dr) := HR1.out.cell 9; clear g0 g1 g2 hb) | (go_at_call 86; refine (within_int _ _ _ _).mono ?_; rintro e w' ⟨rfl, rfl⟩; rw [HIN.out]) | (go_at_call 119; have HQ := areFieldNames_any Ak nk ck ks w1 (HK.out.go HB1.out) (classes_go HT.out HB1.out); refine Calls.mono HQ ?_; clear HQ q3 q4 q5 q6 q7 q8 q9; rintro e w2 ⟨rfl, hb⟩; rw [HFN.out]; have HR2 := Lib.hid (HR1.out.below hb HG1.out); have HB2 := Lib.hid (HB1.out.trans (hb.mono HB1.out.size)); have q4 : w2.cell? ⟨W.heap.size, 4, none⟩ = some (.slice Ak nk ck) := HR2.out.cell 4; have q5 : w2.cell? ⟨W.heap.size, 5, none⟩ = some (.slice Av nv cv) := HR2.out.cell 5; clear hb) | (go_at_call 114; have HQ := arePairs_any Ak nk ck ks Av nv cv vs w2 (HK.out.go HB2.out) (HV.out.go HB2.out) HCK.out (classes_go HT.out HB2.out); refine Calls.mono HQ ?_; clear HQ; rintro e w3 ⟨rfl, hb⟩; rw [HPR.out]; have HB3 := Lib.hid (HB2.out.trans (hb.mono HB2.out.size)); clear hb))
    all_goals go_ret
    all_goals first | exact ⟨rfl, HB3.out⟩ | exact ⟨rfl, HB2.out⟩ | exact ⟨rfl, HB1.out⟩ | exact ⟨rfl, below_alloc _ _⟩
  cases z7
  · go_enter Tryd.func118, Tryd.ntmps118
    go_wp2_with (first | (go_at_call 87; obtain ⟨g0, g1, g2⟩ := HC.out _ rfl; have HQ := impl_IsName_any name _ HN.out (classes_go HT.out g1); refine Calls.mono HQ ?_; clear HQ; rintro e w1 ⟨rfl, hb⟩; rw [HNM.out]; have HR1 := Lib.hid (g0.below hb g2); have HB1 := Lib.hid (g1.trans (hb.mono g1.size)); have HG1 : Hid (W.heap.size < w1.heap.size) := (Nat.lt_of_lt_of_le g2 hb.size); have q3 : w1.cell? ⟨W.heap.size, 3, none⟩ = some (.int .i64 low) := HR1.out.cell 3; have q4 : w1.cell? ⟨W.heap.size, 4, none⟩ = some (.slice Ak nk ck) := HR1.out.cell 4; have q5 : w1.cell? ⟨W.heap.size, 5, none⟩ = some (.slice Av nv cv) := HR1.out.cell 5; have q6 : w1.cell? ⟨W.heap.size, 6, none⟩ = some (.int .i64 dk) := HR1.out.cell 6; have q7 : w1.cell? ⟨W.heap.size, 7, none⟩ = some (.int .i64 dn) := HR1.out.cell 7; have q8 : w1.cell? ⟨W.heap.size, 8, none⟩ = some (.string dt) := HR1.out.cell 8; have q9 : w1.cell? ⟨W.heap.size, 9, none⟩ = some (.int .i64 dr) := HR1.out.cell 9; clear g0 g1 g2 hb) | (go_at_call 86; refine (within_int _ _ _ _).mono ?_; rintro e w' ⟨rfl, rfl⟩; rw [HIN.out]) | (go_at_call 119; have HQ := areFieldNames_any Ak nk ck ks w1 (HK.out.go HB1.out) (classes_go HT.out HB1.out); refine Calls.mono HQ ?_; clear HQ q3 q4 q5 q6 q7 q8 q9; rintro e w2 ⟨rfl, hb⟩; rw [HFN.out]; have HR2 := Lib.hid (HR1.out.below hb HG1.out); have HB2 := Lib.hid (HB1.out.trans (hb.mono HB1.out.size)); have q4 : w2.cell? ⟨W.heap.size, 4, none⟩ = some (.slice Ak nk ck) := HR2.out.cell 4; have q5 : w2.cell? ⟨W.heap.size, 5, none⟩ = some (.slice Av nv cv) := HR2.out.cell 5; clear hb) | (go_at_call 114; have HQ := arePairs_any Ak nk ck ks Av nv cv vs w2 (HK.out.go HB2.out) (HV.out.go HB2.out) HCK.out (classes_go HT.out HB2.out); refine Calls.mono HQ ?_; clear HQ; rintro e w3 ⟨rfl, hb⟩; rw [HPR.out]; have HB3 := Lib.hid (HB2.out.trans (hb.mono HB2.out.size)); clear hb))
    all_goals go_ret
    all_goals first | exact ⟨rfl, HB3.out⟩ | exact ⟨rfl, HB2.out⟩ | exact ⟨rfl, HB1.out⟩ | exact ⟨rfl, below_alloc _ _⟩
  cases z8
  · go_enter Tryd.func118, Tryd.ntmps118
    go_wp2_with (first | (go_at_call 87; obtain ⟨g0, g1, g2⟩ := HC.out _ rfl; have HQ := impl_IsName_any name _ HN.out (classes_go HT.out g1); refine Calls.mono HQ ?_; clear HQ; rintro e w1 ⟨rfl, hb⟩; rw [HNM.out]; have HR1 := Lib.hid (g0.below hb g2); have HB1 := Lib.hid (g1.trans (hb.mono g1.size)); have HG1 : Hid (W.heap.size < w1.heap.size) := (Nat.lt_of_lt_of_le g2 hb.size); have q3 : w1.cell? ⟨W.heap.size, 3, none⟩ = some (.int .i64 low) := HR1.out.cell 3; have q4 : w1.cell? ⟨W.heap.size, 4, none⟩ = some (.slice Ak nk ck) := HR1.out.cell 4; have q5 : w1.cell? ⟨W.heap.size, 5, none⟩ = some (.slice Av nv cv) := HR1.out.cell 5; have q6 : w1.cell? ⟨W.heap.size, 6, none⟩ = some (.int .i64 dk) := HR1.out.cell 6; have q7 : w1.cell? ⟨W.heap.size, 7, none⟩ = some (.int .i64 dn) := HR1.out.cell 7; have q8 : w1.cell? ⟨W.heap.size, 8, none⟩ = some (.string dt) := HR1.out.cell 8; have q9 : w1.cell? ⟨W.heap.size, 9, none⟩ = some (.int .i64 dr) := HR1.out.cell 9; clear g0 g1 g2 hb) | (go_at_call 86; refine (within_int _ _ _ _).mono ?_; rintro e w' ⟨rfl, rfl⟩; rw [HIN.out]) | (go_at_call 119; have HQ := areFieldNames_any Ak nk ck ks w1 (HK.out.go HB1.out) (classes_go HT.out HB1.out); refine Calls.mono HQ ?_; clear HQ q3 q4 q5 q6 q7 q8 q9; rintro e w2 ⟨rfl, hb⟩; rw [HFN.out]; have HR2 := Lib.hid (HR1.out.below hb HG1.out); have HB2 := Lib.hid (HB1.out.trans (hb.mono HB1.out.size)); have q4 : w2.cell? ⟨W.heap.size, 4, none⟩ = some (.slice Ak nk ck) := HR2.out.cell 4; have q5 : w2.cell? ⟨W.heap.size, 5, none⟩ = some (.slice Av nv cv) := HR2.out.cell 5; clear hb) | (go_at_call 114; have HQ := arePairs_any Ak nk ck ks Av nv cv vs w2 (HK.out.go HB2.out) (HV.out.go HB2.out) HCK.out (classes_go HT.out HB2.out); refine Calls.mono HQ ?_; clear HQ; rintro e w3 ⟨rfl, hb⟩; rw [HPR.out]; have HB3 := Lib.hid (HB2.out.trans (hb.mono HB2.out.size)); clear hb))
    all_goals go_ret
    all_goals first | exact ⟨rfl, HB3.out⟩ | exact ⟨rfl, HB2.out⟩ | exact ⟨rfl, HB1.out⟩ | exact ⟨rfl, below_alloc _ _⟩
  by_cases ht : ¬ dt.size = 0
  · have hp : 0 < dt.size := by omega
    have e1 := ne_nil_of_size hp
    have e2 := not_isEmpty_of_size hp
    rw [show (dt.size == 0) = false from by simp [ht]]
    clear ht hp
    go_enter Tryd.func118, Tryd.ntmps118
    go_wp2_with (first | (go_at_call 87; obtain ⟨g0, g1, g2⟩ := HC.out _ rfl; have HQ := impl_IsName_any name _ HN.out (classes_go HT.out g1); refine Calls.mono HQ ?_; clear HQ; rintro e w1 ⟨rfl, hb⟩; rw [HNM.out]; have HR1 := Lib.hid (g0.below hb g2); have HB1 := Lib.hid (g1.trans (hb.mono g1.size)); have HG1 : Hid (W.heap.size < w1.heap.size) := (Nat.lt_of_lt_of_le g2 hb.size); have q3 : w1.cell? ⟨W.heap.size, 3, none⟩ = some (.int .i64 low) := HR1.out.cell 3; have q4 : w1.cell? ⟨W.heap.size, 4, none⟩ = some (.slice Ak nk ck) := HR1.out.cell 4; have q5 : w1.cell? ⟨W.heap.size, 5, none⟩ = some (.slice Av nv cv) := HR1.out.cell 5; have q6 : w1.cell? ⟨W.heap.size, 6, none⟩ = some (.int .i64 dk) := HR1.out.cell 6; have q7 : w1.cell? ⟨W.heap.size, 7, none⟩ = some (.int .i64 dn) := HR1.out.cell 7; have q8 : w1.cell? ⟨W.heap.size, 8, none⟩ = some (.string dt) := HR1.out.cell 8; have q9 : w1.cell? ⟨W.heap.size, 9, none⟩ = some (.int .i64 dr) := HR1.out.cell 9; clear g0 g1 g2 hb) | (go_at_call 86; refine (within_int _ _ _ _).mono ?_; rintro e w' ⟨rfl, rfl⟩; rw [HIN.out]) | (go_at_call 119; have HQ := areFieldNames_any Ak nk ck ks w1 (HK.out.go HB1.out) (classes_go HT.out HB1.out); refine Calls.mono HQ ?_; clear HQ q3 q4 q5 q6 q7 q8 q9; rintro e w2 ⟨rfl, hb⟩; rw [HFN.out]; have HR2 := Lib.hid (HR1.out.below hb HG1.out); have HB2 := Lib.hid (HB1.out.trans (hb.mono HB1.out.size)); have q4 : w2.cell? ⟨W.heap.size, 4, none⟩ = some (.slice Ak nk ck) := HR2.out.cell 4; have q5 : w2.cell? ⟨W.heap.size, 5, none⟩ = some (.slice Av nv cv) := HR2.out.cell 5; clear hb) | (go_at_call 114; have HQ := arePairs_any Ak nk ck ks Av nv cv vs w2 (HK.out.go HB2.out) (HV.out.go HB2.out) HCK.out (classes_go HT.out HB2.out); refine Calls.mono HQ ?_; clear HQ; rintro e w3 ⟨rfl, hb⟩; rw [HPR.out]; have HB3 := Lib.hid (HB2.out.trans (hb.mono HB2.out.size)); clear hb))
    all_goals go_ret
    all_goals first | exact ⟨rfl, HB3.out⟩ | exact ⟨rfl, HB2.out⟩ | exact ⟨rfl, HB1.out⟩ | exact ⟨rfl, below_alloc _ _⟩
  replace ht : dt.size = 0 := by omega
  have e1t := nil_of_size ht
  have e2t := isEmpty_of_size ht
  rw [show (dt.size == 0) = true from by simp [ht]]
  clear ht
  cases za
  · go_enter Tryd.func118, Tryd.ntmps118
    go_wp2_with (first | (go_at_call 87; obtain ⟨g0, g1, g2⟩ := HC.out _ rfl; have HQ := impl_IsName_any name _ HN.out (classes_go HT.out g1); refine Calls.mono HQ ?_; clear HQ; rintro e w1 ⟨rfl, hb⟩; rw [HNM.out]; have HR1 := Lib.hid (g0.below hb g2); have HB1 := Lib.hid (g1.trans (hb.mono g1.size)); have HG1 : Hid (W.heap.size < w1.heap.size) := (Nat.lt_of_lt_of_le g2 hb.size); have q3 : w1.cell? ⟨W.heap.size, 3, none⟩ = some (.int .i64 low) := HR1.out.cell 3; have q4 : w1.cell? ⟨W.heap.size, 4, none⟩ = some (.slice Ak nk ck) := HR1.out.cell 4; have q5 : w1.cell? ⟨W.heap.size, 5, none⟩ = some (.slice Av nv cv) := HR1.out.cell 5; have q6 : w1.cell? ⟨W.heap.size, 6, none⟩ = some (.int .i64 dk) := HR1.out.cell 6; have q7 : w1.cell? ⟨W.heap.size, 7, none⟩ = some (.int .i64 dn) := HR1.out.cell 7; have q8 : w1.cell? ⟨W.heap.size, 8, none⟩ = some (.string dt) := HR1.out.cell 8; have q9 : w1.cell? ⟨W.heap.size, 9, none⟩ = some (.int .i64 dr) := HR1.out.cell 9; clear g0 g1 g2 hb) | (go_at_call 86; refine (within_int _ _ _ _).mono ?_; rintro e w' ⟨rfl, rfl⟩; rw [HIN.out]) | (go_at_call 119; have HQ := areFieldNames_any Ak nk ck ks w1 (HK.out.go HB1.out) (classes_go HT.out HB1.out); refine Calls.mono HQ ?_; clear HQ q3 q4 q5 q6 q7 q8 q9; rintro e w2 ⟨rfl, hb⟩; rw [HFN.out]; have HR2 := Lib.hid (HR1.out.below hb HG1.out); have HB2 := Lib.hid (HB1.out.trans (hb.mono HB1.out.size)); have q4 : w2.cell? ⟨W.heap.size, 4, none⟩ = some (.slice Ak nk ck) := HR2.out.cell 4; have q5 : w2.cell? ⟨W.heap.size, 5, none⟩ = some (.slice Av nv cv) := HR2.out.cell 5; clear hb) | (go_at_call 114; have HQ := arePairs_any Ak nk ck ks Av nv cv vs w2 (HK.out.go HB2.out) (HV.out.go HB2.out) HCK.out (classes_go HT.out HB2.out); refine Calls.mono HQ ?_; clear HQ; rintro e w3 ⟨rfl, hb⟩; rw [HPR.out]; have HB3 := Lib.hid (HB2.out.trans (hb.mono HB2.out.size)); clear hb))
    all_goals go_ret
    all_goals first | exact ⟨rfl, HB3.out⟩ | exact ⟨rfl, HB2.out⟩ | exact ⟨rfl, HB1.out⟩ | exact ⟨rfl, below_alloc _ _⟩
  cases IN
  · go_enter Tryd.func118, Tryd.ntmps118
    go_wp2_with (first | (go_at_call 87; obtain ⟨g0, g1, g2⟩ := HC.out _ rfl; have HQ := impl_IsName_any name _ HN.out (classes_go HT.out g1); refine Calls.mono HQ ?_; clear HQ; rintro e w1 ⟨rfl, hb⟩; rw [HNM.out]; have HR1 := Lib.hid (g0.below hb g2); have HB1 := Lib.hid (g1.trans (hb.mono g1.size)); have HG1 : Hid (W.heap.size < w1.heap.size) := (Nat.lt_of_lt_of_le g2 hb.size); have q3 : w1.cell? ⟨W.heap.size, 3, none⟩ = some (.int .i64 low) := HR1.out.cell 3; have q4 : w1.cell? ⟨W.heap.size, 4, none⟩ = some (.slice Ak nk ck) := HR1.out.cell 4; have q5 : w1.cell? ⟨W.heap.size, 5, none⟩ = some (.slice Av nv cv) := HR1.out.cell 5; have q6 : w1.cell? ⟨W.heap.size, 6, none⟩ = some (.int .i64 dk) := HR1.out.cell 6; have q7 : w1.cell? ⟨W.heap.size, 7, none⟩ = some (.int .i64 dn) := HR1.out.cell 7; have q8 : w1.cell? ⟨W.heap.size, 8, none⟩ = some (.string dt) := HR1.out.cell 8; have q9 : w1.cell? ⟨W.heap.size, 9, none⟩ = some (.int .i64 dr) := HR1.out.cell 9; clear g0 g1 g2 hb) | (go_at_call 86; refine (within_int _ _ _ _).mono ?_; rintro e w' ⟨rfl, rfl⟩; rw [HIN.out]) | (go_at_call 119; have HQ := areFieldNames_any Ak nk ck ks w1 (HK.out.go HB1.out) (classes_go HT.out HB1.out); refine Calls.mono HQ ?_; clear HQ q3 q4 q5 q6 q7 q8 q9; rintro e w2 ⟨rfl, hb⟩; rw [HFN.out]; have HR2 := Lib.hid (HR1.out.below hb HG1.out); have HB2 := Lib.hid (HB1.out.trans (hb.mono HB1.out.size)); have q4 : w2.cell? ⟨W.heap.size, 4, none⟩ = some (.slice Ak nk ck) := HR2.out.cell 4; have q5 : w2.cell? ⟨W.heap.size, 5, none⟩ = some (.slice Av nv cv) := HR2.out.cell 5; clear hb) | (go_at_call 114; have HQ := arePairs_any Ak nk ck ks Av nv cv vs w2 (HK.out.go HB2.out) (HV.out.go HB2.out) HCK.out (classes_go HT.out HB2.out); refine Calls.mono HQ ?_; clear HQ; rintro e w3 ⟨rfl, hb⟩; rw [HPR.out]; have HB3 := Lib.hid (HB2.out.trans (hb.mono HB2.out.size)); clear hb))
    all_goals go_ret
    all_goals first | exact ⟨rfl, HB3.out⟩ | exact ⟨rfl, HB2.out⟩ | exact ⟨rfl, HB1.out⟩ | exact ⟨rfl, below_alloc _ _⟩
  cases FN
  · go_enter Tryd.func118, Tryd.ntmps118
    go_wp2_with (first | (go_at_call 87; obtain ⟨g0, g1, g2⟩ := HC.out _ rfl; have HQ := impl_IsName_any name _ HN.out (classes_go HT.out g1); refine Calls.mono HQ ?_; clear HQ; rintro e w1 ⟨rfl, hb⟩; rw [HNM.out]; have HR1 := Lib.hid (g0.below hb g2); have HB1 := Lib.hid (g1.trans (hb.mono g1.size)); have HG1 : Hid (W.heap.size < w1.heap.size) := (Nat.lt_of_lt_of_le g2 hb.size); have q3 : w1.cell? ⟨W.heap.size, 3, none⟩ = some (.int .i64 low) := HR1.out.cell 3; have q4 : w1.cell? ⟨W.heap.size, 4, none⟩ = some (.slice Ak nk ck) := HR1.out.cell 4; have q5 : w1.cell? ⟨W.heap.size, 5, none⟩ = some (.slice Av nv cv) := HR1.out.cell 5; have q6 : w1.cell? ⟨W.heap.size, 6, none⟩ = some (.int .i64 dk) := HR1.out.cell 6; have q7 : w1.cell? ⟨W.heap.size, 7, none⟩ = some (.int .i64 dn) := HR1.out.cell 7; have q8 : w1.cell? ⟨W.heap.size, 8, none⟩ = some (.string dt) := HR1.out.cell 8; have q9 : w1.cell? ⟨W.heap.size, 9, none⟩ = some (.int .i64 dr) := HR1.out.cell 9; clear g0 g1 g2 hb) | (go_at_call 86; refine (within_int _ _ _ _).mono ?_; rintro e w' ⟨rfl, rfl⟩; rw [HIN.out]) | (go_at_call 119; have HQ := areFieldNames_any Ak nk ck ks w1 (HK.out.go HB1.out) (classes_go HT.out HB1.out); refine Calls.mono HQ ?_; clear HQ q3 q4 q5 q6 q7 q8 q9; rintro e w2 ⟨rfl, hb⟩; rw [HFN.out]; have HR2 := Lib.hid (HR1.out.below hb HG1.out); have HB2 := Lib.hid (HB1.out.trans (hb.mono HB1.out.size)); have q4 : w2.cell? ⟨W.heap.size, 4, none⟩ = some (.slice Ak nk ck) := HR2.out.cell 4; have q5 : w2.cell? ⟨W.heap.size, 5, none⟩ = some (.slice Av nv cv) := HR2.out.cell 5; clear hb) | (go_at_call 114; have HQ := arePairs_any Ak nk ck ks Av nv cv vs w2 (HK.out.go HB2.out) (HV.out.go HB2.out) HCK.out (classes_go HT.out HB2.out); refine Calls.mono HQ ?_; clear HQ; rintro e w3 ⟨rfl, hb⟩; rw [HPR.out]; have HB3 := Lib.hid (HB2.out.trans (hb.mono HB2.out.size)); clear hb))
    all_goals go_ret
    all_goals first | exact ⟨rfl, HB3.out⟩ | exact ⟨rfl, HB2.out⟩ | exact ⟨rfl, HB1.out⟩ | exact ⟨rfl, below_alloc _ _⟩
  cases PR
  · go_enter Tryd.func118, Tryd.ntmps118
    go_wp2_with (first | (go_at_call 87; obtain ⟨g0, g1, g2⟩ := HC.out _ rfl; have HQ := impl_IsName_any name _ HN.out (classes_go HT.out g1); refine Calls.mono HQ ?_; clear HQ; rintro e w1 ⟨rfl, hb⟩; rw [HNM.out]; have HR1 := Lib.hid (g0.below hb g2); have HB1 := Lib.hid (g1.trans (hb.mono g1.size)); have HG1 : Hid (W.heap.size < w1.heap.size) := (Nat.lt_of_lt_of_le g2 hb.size); have q3 : w1.cell? ⟨W.heap.size, 3, none⟩ = some (.int .i64 low) := HR1.out.cell 3; have q4 : w1.cell? ⟨W.heap.size, 4, none⟩ = some (.slice Ak nk ck) := HR1.out.cell 4; have q5 : w1.cell? ⟨W.heap.size, 5, none⟩ = some (.slice Av nv cv) := HR1.out.cell 5; have q6 : w1.cell? ⟨W.heap.size, 6, none⟩ = some (.int .i64 dk) := HR1.out.cell 6; have q7 : w1.cell? ⟨W.heap.size, 7, none⟩ = some (.int .i64 dn) := HR1.out.cell 7; have q8 : w1.cell? ⟨W.heap.size, 8, none⟩ = some (.string dt) := HR1.out.cell 8; have q9 : w1.cell? ⟨W.heap.size, 9, none⟩ = some (.int .i64 dr) := HR1.out.cell 9; clear g0 g1 g2 hb) | (go_at_call 86; refine (within_int _ _ _ _).mono ?_; rintro e w' ⟨rfl, rfl⟩; rw [HIN.out]) | (go_at_call 119; have HQ := areFieldNames_any Ak nk ck ks w1 (HK.out.go HB1.out) (classes_go HT.out HB1.out); refine Calls.mono HQ ?_; clear HQ q3 q4 q5 q6 q7 q8 q9; rintro e w2 ⟨rfl, hb⟩; rw [HFN.out]; have HR2 := Lib.hid (HR1.out.below hb HG1.out); have HB2 := Lib.hid (HB1.out.trans (hb.mono HB1.out.size)); have q4 : w2.cell? ⟨W.heap.size, 4, none⟩ = some (.slice Ak nk ck) := HR2.out.cell 4; have q5 : w2.cell? ⟨W.heap.size, 5, none⟩ = some (.slice Av nv cv) := HR2.out.cell 5; clear hb) | (go_at_call 114; have HQ := arePairs_any Ak nk ck ks Av nv cv vs w2 (HK.out.go HB2.out) (HV.out.go HB2.out) HCK.out (classes_go HT.out HB2.out); refine Calls.mono HQ ?_; clear HQ; rintro e w3 ⟨rfl, hb⟩; rw [HPR.out]; have HB3 := Lib.hid (HB2.out.trans (hb.mono HB2.out.size)); clear hb))
    all_goals go_ret
    all_goals first | exact ⟨rfl, HB3.out⟩ | exact ⟨rfl, HB2.out⟩ | exact ⟨rfl, HB1.out⟩ | exact ⟨rfl, below_alloc _ _⟩
  go_enter Tryd.func118, Tryd.ntmps118
  go_wp2_with (first | (go_at_call 87; obtain ⟨g0, g1, g2⟩ := HC.out _ rfl; have HQ := impl_IsName_any name _ HN.out (classes_go HT.out g1); refine Calls.mono HQ ?_; clear HQ; rintro e w1 ⟨rfl, hb⟩; rw [HNM.out]; have HR1 := Lib.hid (g0.below hb g2); have HB1 := Lib.hid (g1.trans (hb.mono g1.size)); have HG1 : Hid (W.heap.size < w1.heap.size) := (Nat.lt_of_lt_of_le g2 hb.size); have q3 : w1.cell? ⟨W.heap.size, 3, none⟩ = some (.int .i64 low) := HR1.out.cell 3; have q4 : w1.cell? ⟨W.heap.size, 4, none⟩ = some (.slice Ak nk ck) := HR1.out.cell 4; have q5 : w1.cell? ⟨W.heap.size, 5, none⟩ = some (.slice Av nv cv) := HR1.out.cell 5; have q6 : w1.cell? ⟨W.heap.size, 6, none⟩ = some (.int .i64 dk) := HR1.out.cell 6; have q7 : w1.cell? ⟨W.heap.size, 7, none⟩ = some (.int .i64 dn) := HR1.out.cell 7; have q8 : w1.cell? ⟨W.heap.size, 8, none⟩ = some (.string dt) := HR1.out.cell 8; have q9 : w1.cell? ⟨W.heap.size, 9, none⟩ = some (.int .i64 dr) := HR1.out.cell 9; clear g0 g1 g2 hb) | (go_at_call 86; refine (within_int _ _ _ _).mono ?_; rintro e w' ⟨rfl, rfl⟩; rw [HIN.out]) | (go_at_call 119; have HQ := areFieldNames_any Ak nk ck ks w1 (HK.out.go HB1.out) (classes_go HT.out HB1.out); refine Calls.mono HQ ?_; clear HQ q3 q4 q5 q6 q7 q8 q9; rintro e w2 ⟨rfl, hb⟩; rw [HFN.out]; have HR2 := Lib.hid (HR1.out.below hb HG1.out); have HB2 := Lib.hid (HB1.out.trans (hb.mono HB1.out.size)); have q4 : w2.cell? ⟨W.heap.size, 4, none⟩ = some (.slice Ak nk ck) := HR2.out.cell 4; have q5 : w2.cell? ⟨W.heap.size, 5, none⟩ = some (.slice Av nv cv) := HR2.out.cell 5; clear hb) | (go_at_call 114; have HQ := arePairs_any Ak nk ck ks Av nv cv vs w2 (HK.out.go HB2.out) (HV.out.go HB2.out) HCK.out (classes_go HT.out HB2.out); refine Calls.mono HQ ?_; clear HQ; rintro e w3 ⟨rfl, hb⟩; rw [HPR.out]; have HB3 := Lib.hid (HB2.out.trans (hb.mono HB2.out.size)); clear hb))
  all_goals go_ret
  all_goals first | exact ⟨rfl, HB3.out⟩ | exact ⟨rfl, HB2.out⟩ | exact ⟨rfl, HB1.out⟩ | exact ⟨rfl, below_alloc _ _⟩
end Go.Proofs.YtbdmanadmckjjaaDoor
