/- Contracts: l07SameObject of the model, sameObject of the program. No condition. -/
import Derived.Test.YthbeaffjkjhphaaObsEq
import Derived.Test.YthbeaffjkjhphaaSameVals
namespace Go.Proofs.Ythbeaffjkjhphaa
open Go Go.RowKit Go.Sort

theorem sameOb_bool (o o' : Ob) : tt (o = o') = ((o.id == o'.id) && ((o.kind == o'.kind) && ((o.name.toList == o'.name.toList) && ((o.low == o'.low) && (tt (o.keys = o'.keys) && (tt (o.vals = o'.vals) && sameV o.d.k o.d.n o.d.t o.d.r o'.d.k o'.d.n o'.d.t o'.d.r)))))) := by
  rw [Bool.eq_iff_iff]
  simp only [Bool.and_eq_true, tt_iff, sameV_iff, beq_iff_eq]
  obtain ⟨id, kind, name, low, ks, vs, d⟩ := o
  obtain ⟨id', kind', name', low', ks', vs', d'⟩ := o'
  simp only [Ob.mk.injEq]
  constructor
  · rintro ⟨h1, h2, h3, h4, h5, h6, h7⟩
    exact ⟨h1, h2, by rw [h3], h4, h5, h6, h7⟩
  · rintro ⟨h1, h2, h3, h4, h5, h6, h7⟩
    exact ⟨h1, h2, WideShapes.bytes_inj (by rw [← ByteArray.toList_eq, ← ByteArray.toList_eq]; exact h3), h4, h5, h6, h7⟩

set_option maxHeartbeats 4000000 in
set_option maxRecDepth 100000 in
theorem l07SameObject_any (o o' : Ob) (l l' : Lay) (W : World) (ho : OV W W.heap.size o l) (ho' : OV W W.heap.size o' l') :
    Calls Try.prog 16 #[o.ag l, o'.ag l'] W fun e w' => e = .returned (.bool (tt (o = o'))) ∧ Below W.heap.size W w' := by
  rw [sameOb_bool]
  obtain ⟨id, kind, name, low, ks, vs, ⟨dk, dn, dt, dr⟩⟩ := o
  obtain ⟨Ak, nk, ck, Av, nv, cv⟩ := l
  obtain ⟨id', kind', name', low', ks', vs', ⟨dk', dn', dt', dr'⟩⟩ := o'
  obtain ⟨Ak', nk', ck', Av', nv', cv'⟩ := l'
  obtain ⟨hk, hv, _, _⟩ := ho
  obtain ⟨hk', hv', _, _⟩ := ho'
  dsimp only at hk hv hk' hv' ⊢
  have HK := Lib.hid hk
  have HV := Lib.hid hv
  have HK' := Lib.hid hk'
  have HV' := Lib.hid hv'
  clear hk hv hk' hv'
  have HC := Lib.hid (two_new W 41 #[.int .i64 id, .int .i64 kind, .string name, .int .i64 low, .slice Ak nk ck, .slice Av nv cv, .int .i64 dk, .int .i64 dn, .string dt, .int .i64 dr] #[.int .i64 id', .int .i64 kind', .string name', .int .i64 low', .slice Ak' nk' ck', .slice Av' nv' cv', .int .i64 dk', .int .i64 dn', .string dt', .int .i64 dr'])
  show Calls Try.prog 16 #[.agg #[.int .i64 id, .int .i64 kind, .string name, .int .i64 low, .slice Ak nk ck, .slice Av nv cv, .int .i64 dk, .int .i64 dn, .string dt, .int .i64 dr], .agg #[.int .i64 id', .int .i64 kind', .string name', .int .i64 low', .slice Ak' nk' ck', .slice Av' nv' cv', .int .i64 dk', .int .i64 dn', .string dt', .int .i64 dr']] W _
  unfold sameV
  obtain ⟨z5, h5⟩ : ∃ z, tt (ks = ks') = z := ⟨_, rfl⟩
  obtain ⟨z6, h6⟩ : ∃ z, tt (vs = vs') = z := ⟨_, rfl⟩
  have Z5 := Lib.hid h5
  have Z6 := Lib.hid h6
  rw [h5, h6]
  clear h5 h6
  obtain ⟨z1, h1⟩ : ∃ z, (id == id') = z := ⟨_, rfl⟩
  obtain ⟨z2, h2⟩ : ∃ z, (kind == kind') = z := ⟨_, rfl⟩
  obtain ⟨z3, h3⟩ : ∃ z, (name.toList == name'.toList) = z := ⟨_, rfl⟩
  obtain ⟨z4, h4⟩ : ∃ z, (low == low') = z := ⟨_, rfl⟩
  obtain ⟨z7, h7⟩ : ∃ z, (dk == dk') = z := ⟨_, rfl⟩
  obtain ⟨z8, h8⟩ : ∃ z, (dn == dn') = z := ⟨_, rfl⟩
  obtain ⟨z9, h9⟩ : ∃ z, (dt.toList == dt'.toList) = z := ⟨_, rfl⟩
  obtain ⟨za, ha⟩ : ∃ z, (dr == dr') = z := ⟨_, rfl⟩
  rw [h1, h2, h3, h4, h7, h8, h9, ha]
  cases z1
  · go_enter Try.func16, Try.ntmps16
    go_wp2_with fail
    all_goals go_ret
    all_goals exact ⟨rfl, (below_alloc _ _).alloc (by simp) _⟩
  cases z2
  · go_enter Try.func16, Try.ntmps16
    go_wp2_with fail
    all_goals go_ret
    all_goals exact ⟨rfl, (below_alloc _ _).alloc (by simp) _⟩
  cases z3
  · go_enter Try.func16, Try.ntmps16
    go_wp2_with fail
    all_goals go_ret
    all_goals exact ⟨rfl, (below_alloc _ _).alloc (by simp) _⟩
  cases z4
  · go_enter Try.func16, Try.ntmps16
    go_wp2_with fail
    all_goals go_ret
    all_goals exact ⟨rfl, (below_alloc _ _).alloc (by simp) _⟩
  cases z5
  · go_enter Try.func16, Try.ntmps16
    go_wp2_with (go_at_call 22; obtain ⟨g0, g1, g2, g3⟩ := HC.out _ rfl; have HQ := l07SameValues_any Ak Ak' nk nk' ck ck' ks ks' _ (HK.out.go g2) (HK'.out.go g2); refine Calls.mono HQ ?_; clear HQ; rintro e w1 ⟨rfl, hb⟩; rw [Z5.out]; have HA1 := Lib.hid (g0.below hb (by omega)); have HD1 := Lib.hid (g1.below hb (by omega)); have HB1 := Lib.hid (g2.trans (hb.mono g2.size)); have HG1 : Hid (W.heap.size + 2 ≤ w1.heap.size) := (by have := hb.size; show _ ≤ _; omega); have q5 : w1.cell? ⟨W.heap.size, 5, none⟩ = some (.slice Av nv cv) := HA1.out.cell 5; have p5 : w1.cell? ⟨W.heap.size + 1, 5, none⟩ = some (.slice Av' nv' cv') := HD1.out.cell 5; clear g0 g1 g2 g3 hb HK)
    all_goals go_ret
    all_goals exact ⟨rfl, HB1.out⟩
  cases z6
  · go_enter Try.func16, Try.ntmps16
    go_wp2_with (go_at_call 22; obtain ⟨g0, g1, g2, g3⟩ := HC.out _ rfl; have HQ := l07SameValues_any Ak Ak' nk nk' ck ck' ks ks' _ (HK.out.go g2) (HK'.out.go g2); refine Calls.mono HQ ?_; clear HQ; rintro e w1 ⟨rfl, hb⟩; rw [Z5.out]; have HA1 := Lib.hid (g0.below hb (by omega)); have HD1 := Lib.hid (g1.below hb (by omega)); have HB1 := Lib.hid (g2.trans (hb.mono g2.size)); have HG1 : Hid (W.heap.size + 2 ≤ w1.heap.size) := (by have := hb.size; show _ ≤ _; omega); have q5 : w1.cell? ⟨W.heap.size, 5, none⟩ = some (.slice Av nv cv) := HA1.out.cell 5; have p5 : w1.cell? ⟨W.heap.size + 1, 5, none⟩ = some (.slice Av' nv' cv') := HD1.out.cell 5; clear g0 g1 g2 g3 hb HK)
    go_wp2_with (go_at_call 22; have HQ := l07SameValues_any Av Av' nv nv' cv cv' vs vs' _ (HV.out.go HB1.out) (HV'.out.go HB1.out); refine Calls.mono HQ ?_; clear HQ; rintro e w2 ⟨rfl, hb⟩; rw [Z6.out]; have hg := HG1.out; have HA2 := Lib.hid (HA1.out.below hb (by omega)); have HD2 := Lib.hid (HD1.out.below hb (by omega)); have HB2 := Lib.hid (HB1.out.trans (hb.mono HB1.out.size)); have q6 : w2.cell? ⟨W.heap.size, 6, none⟩ = some (.int .i64 dk) := HA2.out.cell 6; have q7 : w2.cell? ⟨W.heap.size, 7, none⟩ = some (.int .i64 dn) := HA2.out.cell 7; have q8 : w2.cell? ⟨W.heap.size, 8, none⟩ = some (.string dt) := HA2.out.cell 8; have q9 : w2.cell? ⟨W.heap.size, 9, none⟩ = some (.int .i64 dr) := HA2.out.cell 9; have p6 : w2.cell? ⟨W.heap.size + 1, 6, none⟩ = some (.int .i64 dk') := HD2.out.cell 6; have p7 : w2.cell? ⟨W.heap.size + 1, 7, none⟩ = some (.int .i64 dn') := HD2.out.cell 7; have p8 : w2.cell? ⟨W.heap.size + 1, 8, none⟩ = some (.string dt') := HD2.out.cell 8; have p9 : w2.cell? ⟨W.heap.size + 1, 9, none⟩ = some (.int .i64 dr') := HD2.out.cell 9; clear hg hb q5 p5 HV)
    all_goals go_ret
    all_goals exact ⟨rfl, HB2.out⟩
  cases z7
  · go_enter Try.func16, Try.ntmps16
    go_wp2_with (go_at_call 22; obtain ⟨g0, g1, g2, g3⟩ := HC.out _ rfl; have HQ := l07SameValues_any Ak Ak' nk nk' ck ck' ks ks' _ (HK.out.go g2) (HK'.out.go g2); refine Calls.mono HQ ?_; clear HQ; rintro e w1 ⟨rfl, hb⟩; rw [Z5.out]; have HA1 := Lib.hid (g0.below hb (by omega)); have HD1 := Lib.hid (g1.below hb (by omega)); have HB1 := Lib.hid (g2.trans (hb.mono g2.size)); have HG1 : Hid (W.heap.size + 2 ≤ w1.heap.size) := (by have := hb.size; show _ ≤ _; omega); have q5 : w1.cell? ⟨W.heap.size, 5, none⟩ = some (.slice Av nv cv) := HA1.out.cell 5; have p5 : w1.cell? ⟨W.heap.size + 1, 5, none⟩ = some (.slice Av' nv' cv') := HD1.out.cell 5; clear g0 g1 g2 g3 hb HK)
    go_wp2_with (go_at_call 22; have HQ := l07SameValues_any Av Av' nv nv' cv cv' vs vs' _ (HV.out.go HB1.out) (HV'.out.go HB1.out); refine Calls.mono HQ ?_; clear HQ; rintro e w2 ⟨rfl, hb⟩; rw [Z6.out]; have hg := HG1.out; have HA2 := Lib.hid (HA1.out.below hb (by omega)); have HD2 := Lib.hid (HD1.out.below hb (by omega)); have HB2 := Lib.hid (HB1.out.trans (hb.mono HB1.out.size)); have q6 : w2.cell? ⟨W.heap.size, 6, none⟩ = some (.int .i64 dk) := HA2.out.cell 6; have q7 : w2.cell? ⟨W.heap.size, 7, none⟩ = some (.int .i64 dn) := HA2.out.cell 7; have q8 : w2.cell? ⟨W.heap.size, 8, none⟩ = some (.string dt) := HA2.out.cell 8; have q9 : w2.cell? ⟨W.heap.size, 9, none⟩ = some (.int .i64 dr) := HA2.out.cell 9; have p6 : w2.cell? ⟨W.heap.size + 1, 6, none⟩ = some (.int .i64 dk') := HD2.out.cell 6; have p7 : w2.cell? ⟨W.heap.size + 1, 7, none⟩ = some (.int .i64 dn') := HD2.out.cell 7; have p8 : w2.cell? ⟨W.heap.size + 1, 8, none⟩ = some (.string dt') := HD2.out.cell 8; have p9 : w2.cell? ⟨W.heap.size + 1, 9, none⟩ = some (.int .i64 dr') := HD2.out.cell 9; clear hg hb q5 p5 HV)
    all_goals go_ret
    all_goals exact ⟨rfl, HB2.out⟩
  cases z8
  · go_enter Try.func16, Try.ntmps16
    go_wp2_with (go_at_call 22; obtain ⟨g0, g1, g2, g3⟩ := HC.out _ rfl; have HQ := l07SameValues_any Ak Ak' nk nk' ck ck' ks ks' _ (HK.out.go g2) (HK'.out.go g2); refine Calls.mono HQ ?_; clear HQ; rintro e w1 ⟨rfl, hb⟩; rw [Z5.out]; have HA1 := Lib.hid (g0.below hb (by omega)); have HD1 := Lib.hid (g1.below hb (by omega)); have HB1 := Lib.hid (g2.trans (hb.mono g2.size)); have HG1 : Hid (W.heap.size + 2 ≤ w1.heap.size) := (by have := hb.size; show _ ≤ _; omega); have q5 : w1.cell? ⟨W.heap.size, 5, none⟩ = some (.slice Av nv cv) := HA1.out.cell 5; have p5 : w1.cell? ⟨W.heap.size + 1, 5, none⟩ = some (.slice Av' nv' cv') := HD1.out.cell 5; clear g0 g1 g2 g3 hb HK)
    go_wp2_with (go_at_call 22; have HQ := l07SameValues_any Av Av' nv nv' cv cv' vs vs' _ (HV.out.go HB1.out) (HV'.out.go HB1.out); refine Calls.mono HQ ?_; clear HQ; rintro e w2 ⟨rfl, hb⟩; rw [Z6.out]; have hg := HG1.out; have HA2 := Lib.hid (HA1.out.below hb (by omega)); have HD2 := Lib.hid (HD1.out.below hb (by omega)); have HB2 := Lib.hid (HB1.out.trans (hb.mono HB1.out.size)); have q6 : w2.cell? ⟨W.heap.size, 6, none⟩ = some (.int .i64 dk) := HA2.out.cell 6; have q7 : w2.cell? ⟨W.heap.size, 7, none⟩ = some (.int .i64 dn) := HA2.out.cell 7; have q8 : w2.cell? ⟨W.heap.size, 8, none⟩ = some (.string dt) := HA2.out.cell 8; have q9 : w2.cell? ⟨W.heap.size, 9, none⟩ = some (.int .i64 dr) := HA2.out.cell 9; have p6 : w2.cell? ⟨W.heap.size + 1, 6, none⟩ = some (.int .i64 dk') := HD2.out.cell 6; have p7 : w2.cell? ⟨W.heap.size + 1, 7, none⟩ = some (.int .i64 dn') := HD2.out.cell 7; have p8 : w2.cell? ⟨W.heap.size + 1, 8, none⟩ = some (.string dt') := HD2.out.cell 8; have p9 : w2.cell? ⟨W.heap.size + 1, 9, none⟩ = some (.int .i64 dr') := HD2.out.cell 9; clear hg hb q5 p5 HV)
    all_goals go_ret
    all_goals exact ⟨rfl, HB2.out⟩
  cases z9
  · go_enter Try.func16, Try.ntmps16
    go_wp2_with (go_at_call 22; obtain ⟨g0, g1, g2, g3⟩ := HC.out _ rfl; have HQ := l07SameValues_any Ak Ak' nk nk' ck ck' ks ks' _ (HK.out.go g2) (HK'.out.go g2); refine Calls.mono HQ ?_; clear HQ; rintro e w1 ⟨rfl, hb⟩; rw [Z5.out]; have HA1 := Lib.hid (g0.below hb (by omega)); have HD1 := Lib.hid (g1.below hb (by omega)); have HB1 := Lib.hid (g2.trans (hb.mono g2.size)); have HG1 : Hid (W.heap.size + 2 ≤ w1.heap.size) := (by have := hb.size; show _ ≤ _; omega); have q5 : w1.cell? ⟨W.heap.size, 5, none⟩ = some (.slice Av nv cv) := HA1.out.cell 5; have p5 : w1.cell? ⟨W.heap.size + 1, 5, none⟩ = some (.slice Av' nv' cv') := HD1.out.cell 5; clear g0 g1 g2 g3 hb HK)
    go_wp2_with (go_at_call 22; have HQ := l07SameValues_any Av Av' nv nv' cv cv' vs vs' _ (HV.out.go HB1.out) (HV'.out.go HB1.out); refine Calls.mono HQ ?_; clear HQ; rintro e w2 ⟨rfl, hb⟩; rw [Z6.out]; have hg := HG1.out; have HA2 := Lib.hid (HA1.out.below hb (by omega)); have HD2 := Lib.hid (HD1.out.below hb (by omega)); have HB2 := Lib.hid (HB1.out.trans (hb.mono HB1.out.size)); have q6 : w2.cell? ⟨W.heap.size, 6, none⟩ = some (.int .i64 dk) := HA2.out.cell 6; have q7 : w2.cell? ⟨W.heap.size, 7, none⟩ = some (.int .i64 dn) := HA2.out.cell 7; have q8 : w2.cell? ⟨W.heap.size, 8, none⟩ = some (.string dt) := HA2.out.cell 8; have q9 : w2.cell? ⟨W.heap.size, 9, none⟩ = some (.int .i64 dr) := HA2.out.cell 9; have p6 : w2.cell? ⟨W.heap.size + 1, 6, none⟩ = some (.int .i64 dk') := HD2.out.cell 6; have p7 : w2.cell? ⟨W.heap.size + 1, 7, none⟩ = some (.int .i64 dn') := HD2.out.cell 7; have p8 : w2.cell? ⟨W.heap.size + 1, 8, none⟩ = some (.string dt') := HD2.out.cell 8; have p9 : w2.cell? ⟨W.heap.size + 1, 9, none⟩ = some (.int .i64 dr') := HD2.out.cell 9; clear hg hb q5 p5 HV)
    all_goals go_ret
    all_goals exact ⟨rfl, HB2.out⟩
  cases za
  all_goals
    go_enter Try.func16, Try.ntmps16
    go_wp2_with (go_at_call 22; obtain ⟨g0, g1, g2, g3⟩ := HC.out _ rfl; have HQ := l07SameValues_any Ak Ak' nk nk' ck ck' ks ks' _ (HK.out.go g2) (HK'.out.go g2); refine Calls.mono HQ ?_; clear HQ; rintro e w1 ⟨rfl, hb⟩; rw [Z5.out]; have HA1 := Lib.hid (g0.below hb (by omega)); have HD1 := Lib.hid (g1.below hb (by omega)); have HB1 := Lib.hid (g2.trans (hb.mono g2.size)); have HG1 : Hid (W.heap.size + 2 ≤ w1.heap.size) := (by have := hb.size; show _ ≤ _; omega); have q5 : w1.cell? ⟨W.heap.size, 5, none⟩ = some (.slice Av nv cv) := HA1.out.cell 5; have p5 : w1.cell? ⟨W.heap.size + 1, 5, none⟩ = some (.slice Av' nv' cv') := HD1.out.cell 5; clear g0 g1 g2 g3 hb HK)
    go_wp2_with (go_at_call 22; have HQ := l07SameValues_any Av Av' nv nv' cv cv' vs vs' _ (HV.out.go HB1.out) (HV'.out.go HB1.out); refine Calls.mono HQ ?_; clear HQ; rintro e w2 ⟨rfl, hb⟩; rw [Z6.out]; have hg := HG1.out; have HA2 := Lib.hid (HA1.out.below hb (by omega)); have HD2 := Lib.hid (HD1.out.below hb (by omega)); have HB2 := Lib.hid (HB1.out.trans (hb.mono HB1.out.size)); have q6 : w2.cell? ⟨W.heap.size, 6, none⟩ = some (.int .i64 dk) := HA2.out.cell 6; have q7 : w2.cell? ⟨W.heap.size, 7, none⟩ = some (.int .i64 dn) := HA2.out.cell 7; have q8 : w2.cell? ⟨W.heap.size, 8, none⟩ = some (.string dt) := HA2.out.cell 8; have q9 : w2.cell? ⟨W.heap.size, 9, none⟩ = some (.int .i64 dr) := HA2.out.cell 9; have p6 : w2.cell? ⟨W.heap.size + 1, 6, none⟩ = some (.int .i64 dk') := HD2.out.cell 6; have p7 : w2.cell? ⟨W.heap.size + 1, 7, none⟩ = some (.int .i64 dn') := HD2.out.cell 7; have p8 : w2.cell? ⟨W.heap.size + 1, 8, none⟩ = some (.string dt') := HD2.out.cell 8; have p9 : w2.cell? ⟨W.heap.size + 1, 9, none⟩ = some (.int .i64 dr') := HD2.out.cell 9; clear hg hb q5 p5 HV)
    all_goals go_ret
    all_goals exact ⟨rfl, HB2.out⟩

set_option maxHeartbeats 4000000 in
set_option maxRecDepth 100000 in
theorem sameObject_any (o o' : Ob) (l l' : Lay) (W : World) (ho : OV W W.heap.size o l) (ho' : OV W W.heap.size o' l') :
    Calls Try.prog 13 #[o.ag l, o'.ag l'] W fun e w' => e = .returned (.bool (tt (o = o'))) ∧ Below W.heap.size W w' := by
  rw [sameOb_bool]
  obtain ⟨id, kind, name, low, ks, vs, ⟨dk, dn, dt, dr⟩⟩ := o
  obtain ⟨Ak, nk, ck, Av, nv, cv⟩ := l
  obtain ⟨id', kind', name', low', ks', vs', ⟨dk', dn', dt', dr'⟩⟩ := o'
  obtain ⟨Ak', nk', ck', Av', nv', cv'⟩ := l'
  obtain ⟨hk, hv, _, _⟩ := ho
  obtain ⟨hk', hv', _, _⟩ := ho'
  dsimp only at hk hv hk' hv' ⊢
  have HK := Lib.hid hk
  have HV := Lib.hid hv
  have HK' := Lib.hid hk'
  have HV' := Lib.hid hv'
  clear hk hv hk' hv'
  have HC := Lib.hid (two_new W 41 #[.int .i64 id, .int .i64 kind, .string name, .int .i64 low, .slice Ak nk ck, .slice Av nv cv, .int .i64 dk, .int .i64 dn, .string dt, .int .i64 dr] #[.int .i64 id', .int .i64 kind', .string name', .int .i64 low', .slice Ak' nk' ck', .slice Av' nv' cv', .int .i64 dk', .int .i64 dn', .string dt', .int .i64 dr'])
  show Calls Try.prog 13 #[.agg #[.int .i64 id, .int .i64 kind, .string name, .int .i64 low, .slice Ak nk ck, .slice Av nv cv, .int .i64 dk, .int .i64 dn, .string dt, .int .i64 dr], .agg #[.int .i64 id', .int .i64 kind', .string name', .int .i64 low', .slice Ak' nk' ck', .slice Av' nv' cv', .int .i64 dk', .int .i64 dn', .string dt', .int .i64 dr']] W _
  unfold sameV
  obtain ⟨z5, h5⟩ : ∃ z, tt (ks = ks') = z := ⟨_, rfl⟩
  obtain ⟨z6, h6⟩ : ∃ z, tt (vs = vs') = z := ⟨_, rfl⟩
  have Z5 := Lib.hid h5
  have Z6 := Lib.hid h6
  rw [h5, h6]
  clear h5 h6
  obtain ⟨z1, h1⟩ : ∃ z, (id == id') = z := ⟨_, rfl⟩
  obtain ⟨z2, h2⟩ : ∃ z, (kind == kind') = z := ⟨_, rfl⟩
  obtain ⟨z3, h3⟩ : ∃ z, (name.toList == name'.toList) = z := ⟨_, rfl⟩
  obtain ⟨z4, h4⟩ : ∃ z, (low == low') = z := ⟨_, rfl⟩
  obtain ⟨z7, h7⟩ : ∃ z, (dk == dk') = z := ⟨_, rfl⟩
  obtain ⟨z8, h8⟩ : ∃ z, (dn == dn') = z := ⟨_, rfl⟩
  obtain ⟨z9, h9⟩ : ∃ z, (dt.toList == dt'.toList) = z := ⟨_, rfl⟩
  obtain ⟨za, ha⟩ : ∃ z, (dr == dr') = z := ⟨_, rfl⟩
  rw [h1, h2, h3, h4, h7, h8, h9, ha]
  cases z1
  · go_enter Try.func13, Try.ntmps13
    go_wp2_with fail
    all_goals go_ret
    all_goals exact ⟨rfl, (below_alloc _ _).alloc (by simp) _⟩
  cases z2
  · go_enter Try.func13, Try.ntmps13
    go_wp2_with fail
    all_goals go_ret
    all_goals exact ⟨rfl, (below_alloc _ _).alloc (by simp) _⟩
  cases z3
  · go_enter Try.func13, Try.ntmps13
    go_wp2_with fail
    all_goals go_ret
    all_goals exact ⟨rfl, (below_alloc _ _).alloc (by simp) _⟩
  cases z4
  · go_enter Try.func13, Try.ntmps13
    go_wp2_with fail
    all_goals go_ret
    all_goals exact ⟨rfl, (below_alloc _ _).alloc (by simp) _⟩
  cases z5
  · go_enter Try.func13, Try.ntmps13
    go_wp2_with (go_at_call 18; obtain ⟨g0, g1, g2, g3⟩ := HC.out _ rfl; have HQ := slicesEqual_any Ak Ak' nk nk' ck ck' ks ks' _ (HK.out.go g2) (HK'.out.go g2); refine Calls.mono HQ ?_; clear HQ; rintro e w1 ⟨rfl, hb⟩; rw [Z5.out]; have HA1 := Lib.hid (g0.below hb (by omega)); have HD1 := Lib.hid (g1.below hb (by omega)); have HB1 := Lib.hid (g2.trans (hb.mono g2.size)); have HG1 : Hid (W.heap.size + 2 ≤ w1.heap.size) := (by have := hb.size; show _ ≤ _; omega); have q5 : w1.cell? ⟨W.heap.size, 5, none⟩ = some (.slice Av nv cv) := HA1.out.cell 5; have p5 : w1.cell? ⟨W.heap.size + 1, 5, none⟩ = some (.slice Av' nv' cv') := HD1.out.cell 5; clear g0 g1 g2 g3 hb HK)
    all_goals go_ret
    all_goals exact ⟨rfl, HB1.out⟩
  cases z6
  · go_enter Try.func13, Try.ntmps13
    go_wp2_with (go_at_call 18; obtain ⟨g0, g1, g2, g3⟩ := HC.out _ rfl; have HQ := slicesEqual_any Ak Ak' nk nk' ck ck' ks ks' _ (HK.out.go g2) (HK'.out.go g2); refine Calls.mono HQ ?_; clear HQ; rintro e w1 ⟨rfl, hb⟩; rw [Z5.out]; have HA1 := Lib.hid (g0.below hb (by omega)); have HD1 := Lib.hid (g1.below hb (by omega)); have HB1 := Lib.hid (g2.trans (hb.mono g2.size)); have HG1 : Hid (W.heap.size + 2 ≤ w1.heap.size) := (by have := hb.size; show _ ≤ _; omega); have q5 : w1.cell? ⟨W.heap.size, 5, none⟩ = some (.slice Av nv cv) := HA1.out.cell 5; have p5 : w1.cell? ⟨W.heap.size + 1, 5, none⟩ = some (.slice Av' nv' cv') := HD1.out.cell 5; clear g0 g1 g2 g3 hb HK)
    go_wp2_with (go_at_call 18; have HQ := slicesEqual_any Av Av' nv nv' cv cv' vs vs' _ (HV.out.go HB1.out) (HV'.out.go HB1.out); refine Calls.mono HQ ?_; clear HQ; rintro e w2 ⟨rfl, hb⟩; rw [Z6.out]; have hg := HG1.out; have HA2 := Lib.hid (HA1.out.below hb (by omega)); have HD2 := Lib.hid (HD1.out.below hb (by omega)); have HB2 := Lib.hid (HB1.out.trans (hb.mono HB1.out.size)); have q6 : w2.cell? ⟨W.heap.size, 6, none⟩ = some (.int .i64 dk) := HA2.out.cell 6; have q7 : w2.cell? ⟨W.heap.size, 7, none⟩ = some (.int .i64 dn) := HA2.out.cell 7; have q8 : w2.cell? ⟨W.heap.size, 8, none⟩ = some (.string dt) := HA2.out.cell 8; have q9 : w2.cell? ⟨W.heap.size, 9, none⟩ = some (.int .i64 dr) := HA2.out.cell 9; have p6 : w2.cell? ⟨W.heap.size + 1, 6, none⟩ = some (.int .i64 dk') := HD2.out.cell 6; have p7 : w2.cell? ⟨W.heap.size + 1, 7, none⟩ = some (.int .i64 dn') := HD2.out.cell 7; have p8 : w2.cell? ⟨W.heap.size + 1, 8, none⟩ = some (.string dt') := HD2.out.cell 8; have p9 : w2.cell? ⟨W.heap.size + 1, 9, none⟩ = some (.int .i64 dr') := HD2.out.cell 9; clear hg hb q5 p5 HV)
    all_goals go_ret
    all_goals exact ⟨rfl, HB2.out⟩
  cases z7
  · go_enter Try.func13, Try.ntmps13
    go_wp2_with (go_at_call 18; obtain ⟨g0, g1, g2, g3⟩ := HC.out _ rfl; have HQ := slicesEqual_any Ak Ak' nk nk' ck ck' ks ks' _ (HK.out.go g2) (HK'.out.go g2); refine Calls.mono HQ ?_; clear HQ; rintro e w1 ⟨rfl, hb⟩; rw [Z5.out]; have HA1 := Lib.hid (g0.below hb (by omega)); have HD1 := Lib.hid (g1.below hb (by omega)); have HB1 := Lib.hid (g2.trans (hb.mono g2.size)); have HG1 : Hid (W.heap.size + 2 ≤ w1.heap.size) := (by have := hb.size; show _ ≤ _; omega); have q5 : w1.cell? ⟨W.heap.size, 5, none⟩ = some (.slice Av nv cv) := HA1.out.cell 5; have p5 : w1.cell? ⟨W.heap.size + 1, 5, none⟩ = some (.slice Av' nv' cv') := HD1.out.cell 5; clear g0 g1 g2 g3 hb HK)
    go_wp2_with (go_at_call 18; have HQ := slicesEqual_any Av Av' nv nv' cv cv' vs vs' _ (HV.out.go HB1.out) (HV'.out.go HB1.out); refine Calls.mono HQ ?_; clear HQ; rintro e w2 ⟨rfl, hb⟩; rw [Z6.out]; have hg := HG1.out; have HA2 := Lib.hid (HA1.out.below hb (by omega)); have HD2 := Lib.hid (HD1.out.below hb (by omega)); have HB2 := Lib.hid (HB1.out.trans (hb.mono HB1.out.size)); have q6 : w2.cell? ⟨W.heap.size, 6, none⟩ = some (.int .i64 dk) := HA2.out.cell 6; have q7 : w2.cell? ⟨W.heap.size, 7, none⟩ = some (.int .i64 dn) := HA2.out.cell 7; have q8 : w2.cell? ⟨W.heap.size, 8, none⟩ = some (.string dt) := HA2.out.cell 8; have q9 : w2.cell? ⟨W.heap.size, 9, none⟩ = some (.int .i64 dr) := HA2.out.cell 9; have p6 : w2.cell? ⟨W.heap.size + 1, 6, none⟩ = some (.int .i64 dk') := HD2.out.cell 6; have p7 : w2.cell? ⟨W.heap.size + 1, 7, none⟩ = some (.int .i64 dn') := HD2.out.cell 7; have p8 : w2.cell? ⟨W.heap.size + 1, 8, none⟩ = some (.string dt') := HD2.out.cell 8; have p9 : w2.cell? ⟨W.heap.size + 1, 9, none⟩ = some (.int .i64 dr') := HD2.out.cell 9; clear hg hb q5 p5 HV)
    all_goals go_ret
    all_goals exact ⟨rfl, HB2.out⟩
  cases z8
  · go_enter Try.func13, Try.ntmps13
    go_wp2_with (go_at_call 18; obtain ⟨g0, g1, g2, g3⟩ := HC.out _ rfl; have HQ := slicesEqual_any Ak Ak' nk nk' ck ck' ks ks' _ (HK.out.go g2) (HK'.out.go g2); refine Calls.mono HQ ?_; clear HQ; rintro e w1 ⟨rfl, hb⟩; rw [Z5.out]; have HA1 := Lib.hid (g0.below hb (by omega)); have HD1 := Lib.hid (g1.below hb (by omega)); have HB1 := Lib.hid (g2.trans (hb.mono g2.size)); have HG1 : Hid (W.heap.size + 2 ≤ w1.heap.size) := (by have := hb.size; show _ ≤ _; omega); have q5 : w1.cell? ⟨W.heap.size, 5, none⟩ = some (.slice Av nv cv) := HA1.out.cell 5; have p5 : w1.cell? ⟨W.heap.size + 1, 5, none⟩ = some (.slice Av' nv' cv') := HD1.out.cell 5; clear g0 g1 g2 g3 hb HK)
    go_wp2_with (go_at_call 18; have HQ := slicesEqual_any Av Av' nv nv' cv cv' vs vs' _ (HV.out.go HB1.out) (HV'.out.go HB1.out); refine Calls.mono HQ ?_; clear HQ; rintro e w2 ⟨rfl, hb⟩; rw [Z6.out]; have hg := HG1.out; have HA2 := Lib.hid (HA1.out.below hb (by omega)); have HD2 := Lib.hid (HD1.out.below hb (by omega)); have HB2 := Lib.hid (HB1.out.trans (hb.mono HB1.out.size)); have q6 : w2.cell? ⟨W.heap.size, 6, none⟩ = some (.int .i64 dk) := HA2.out.cell 6; have q7 : w2.cell? ⟨W.heap.size, 7, none⟩ = some (.int .i64 dn) := HA2.out.cell 7; have q8 : w2.cell? ⟨W.heap.size, 8, none⟩ = some (.string dt) := HA2.out.cell 8; have q9 : w2.cell? ⟨W.heap.size, 9, none⟩ = some (.int .i64 dr) := HA2.out.cell 9; have p6 : w2.cell? ⟨W.heap.size + 1, 6, none⟩ = some (.int .i64 dk') := HD2.out.cell 6; have p7 : w2.cell? ⟨W.heap.size + 1, 7, none⟩ = some (.int .i64 dn') := HD2.out.cell 7; have p8 : w2.cell? ⟨W.heap.size + 1, 8, none⟩ = some (.string dt') := HD2.out.cell 8; have p9 : w2.cell? ⟨W.heap.size + 1, 9, none⟩ = some (.int .i64 dr') := HD2.out.cell 9; clear hg hb q5 p5 HV)
    all_goals go_ret
    all_goals exact ⟨rfl, HB2.out⟩
  cases z9
  · go_enter Try.func13, Try.ntmps13
    go_wp2_with (go_at_call 18; obtain ⟨g0, g1, g2, g3⟩ := HC.out _ rfl; have HQ := slicesEqual_any Ak Ak' nk nk' ck ck' ks ks' _ (HK.out.go g2) (HK'.out.go g2); refine Calls.mono HQ ?_; clear HQ; rintro e w1 ⟨rfl, hb⟩; rw [Z5.out]; have HA1 := Lib.hid (g0.below hb (by omega)); have HD1 := Lib.hid (g1.below hb (by omega)); have HB1 := Lib.hid (g2.trans (hb.mono g2.size)); have HG1 : Hid (W.heap.size + 2 ≤ w1.heap.size) := (by have := hb.size; show _ ≤ _; omega); have q5 : w1.cell? ⟨W.heap.size, 5, none⟩ = some (.slice Av nv cv) := HA1.out.cell 5; have p5 : w1.cell? ⟨W.heap.size + 1, 5, none⟩ = some (.slice Av' nv' cv') := HD1.out.cell 5; clear g0 g1 g2 g3 hb HK)
    go_wp2_with (go_at_call 18; have HQ := slicesEqual_any Av Av' nv nv' cv cv' vs vs' _ (HV.out.go HB1.out) (HV'.out.go HB1.out); refine Calls.mono HQ ?_; clear HQ; rintro e w2 ⟨rfl, hb⟩; rw [Z6.out]; have hg := HG1.out; have HA2 := Lib.hid (HA1.out.below hb (by omega)); have HD2 := Lib.hid (HD1.out.below hb (by omega)); have HB2 := Lib.hid (HB1.out.trans (hb.mono HB1.out.size)); have q6 : w2.cell? ⟨W.heap.size, 6, none⟩ = some (.int .i64 dk) := HA2.out.cell 6; have q7 : w2.cell? ⟨W.heap.size, 7, none⟩ = some (.int .i64 dn) := HA2.out.cell 7; have q8 : w2.cell? ⟨W.heap.size, 8, none⟩ = some (.string dt) := HA2.out.cell 8; have q9 : w2.cell? ⟨W.heap.size, 9, none⟩ = some (.int .i64 dr) := HA2.out.cell 9; have p6 : w2.cell? ⟨W.heap.size + 1, 6, none⟩ = some (.int .i64 dk') := HD2.out.cell 6; have p7 : w2.cell? ⟨W.heap.size + 1, 7, none⟩ = some (.int .i64 dn') := HD2.out.cell 7; have p8 : w2.cell? ⟨W.heap.size + 1, 8, none⟩ = some (.string dt') := HD2.out.cell 8; have p9 : w2.cell? ⟨W.heap.size + 1, 9, none⟩ = some (.int .i64 dr') := HD2.out.cell 9; clear hg hb q5 p5 HV)
    all_goals go_ret
    all_goals exact ⟨rfl, HB2.out⟩
  cases za
  all_goals
    go_enter Try.func13, Try.ntmps13
    go_wp2_with (go_at_call 18; obtain ⟨g0, g1, g2, g3⟩ := HC.out _ rfl; have HQ := slicesEqual_any Ak Ak' nk nk' ck ck' ks ks' _ (HK.out.go g2) (HK'.out.go g2); refine Calls.mono HQ ?_; clear HQ; rintro e w1 ⟨rfl, hb⟩; rw [Z5.out]; have HA1 := Lib.hid (g0.below hb (by omega)); have HD1 := Lib.hid (g1.below hb (by omega)); have HB1 := Lib.hid (g2.trans (hb.mono g2.size)); have HG1 : Hid (W.heap.size + 2 ≤ w1.heap.size) := (by have := hb.size; show _ ≤ _; omega); have q5 : w1.cell? ⟨W.heap.size, 5, none⟩ = some (.slice Av nv cv) := HA1.out.cell 5; have p5 : w1.cell? ⟨W.heap.size + 1, 5, none⟩ = some (.slice Av' nv' cv') := HD1.out.cell 5; clear g0 g1 g2 g3 hb HK)
    go_wp2_with (go_at_call 18; have HQ := slicesEqual_any Av Av' nv nv' cv cv' vs vs' _ (HV.out.go HB1.out) (HV'.out.go HB1.out); refine Calls.mono HQ ?_; clear HQ; rintro e w2 ⟨rfl, hb⟩; rw [Z6.out]; have hg := HG1.out; have HA2 := Lib.hid (HA1.out.below hb (by omega)); have HD2 := Lib.hid (HD1.out.below hb (by omega)); have HB2 := Lib.hid (HB1.out.trans (hb.mono HB1.out.size)); have q6 : w2.cell? ⟨W.heap.size, 6, none⟩ = some (.int .i64 dk) := HA2.out.cell 6; have q7 : w2.cell? ⟨W.heap.size, 7, none⟩ = some (.int .i64 dn) := HA2.out.cell 7; have q8 : w2.cell? ⟨W.heap.size, 8, none⟩ = some (.string dt) := HA2.out.cell 8; have q9 : w2.cell? ⟨W.heap.size, 9, none⟩ = some (.int .i64 dr) := HA2.out.cell 9; have p6 : w2.cell? ⟨W.heap.size + 1, 6, none⟩ = some (.int .i64 dk') := HD2.out.cell 6; have p7 : w2.cell? ⟨W.heap.size + 1, 7, none⟩ = some (.int .i64 dn') := HD2.out.cell 7; have p8 : w2.cell? ⟨W.heap.size + 1, 8, none⟩ = some (.string dt') := HD2.out.cell 8; have p9 : w2.cell? ⟨W.heap.size + 1, 9, none⟩ = some (.int .i64 dr') := HD2.out.cell 9; clear hg hb q5 p5 HV)
    all_goals go_ret
    all_goals exact ⟨rfl, HB2.out⟩
end Go.Proofs.Ythbeaffjkjhphaa
