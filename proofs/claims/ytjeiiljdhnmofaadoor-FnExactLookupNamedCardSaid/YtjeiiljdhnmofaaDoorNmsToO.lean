/- toNamed, toNamedS of the laws: copies of one's own. No condition. -/
import Derived.Test.YtjeiiljdhnmofaaDoorNmsTo
import Derived.Test.YtjeiiljdhnmofaaDoorPtsToO
namespace Go.Proofs.YtjeiiljdhnmofaaDoor
open Go Go.RowKit

/-- What toNamed answers. -/
def ToNmO (d n : Nat) (x : Nm) (W : World) (e : Ending) (w' : World) : Prop :=
  ∃ g, e = .returned (x.ag (some ⟨g, 0, none⟩) n n) ∧ Hid ((x.name.size ≤ maxLen ∧ x.pt.t.size ≤ maxLen ∧ PtO w' d W.heap.size w'.heap.size (some ⟨g, 0, none⟩) n x.pt.kids) ∧ Below W.heap.size W w')

set_option maxHeartbeats 2000000 in
set_option maxRecDepth 100000 in
theorem toNamedO_any (d : Nat) (x : Nm) (A : Option Addr) (n c : Nat) (W : World) (ho : NmV W 0 W.heap.size d x A n) (hz : szNm1 x ≤ 1048576) :
    Calls Tryd.prog 56 #[x.ag A n c] W (ToNmO d n x W) := by
  obtain ⟨nm, k, m, t, ks⟩ := x
  have HT := Lib.hid ho.1
  have HTT := Lib.hid ho.2.1
  have HQ := Lib.hid (fun X (hX : Below W.heap.size W X) => toPatternO_any d (.node k m t ks) A n c X ((show PtV W 0 W.heap.size d (.node k m t ks) A n from ho.2).go hX) (by have : szNm1 ⟨nm, .node k m t ks⟩ = nm.size + ptSz (.node k m t ks) := rfl; omega))
  clear ho hz
  have HC := Lib.hid (fun (X Y : World) (c0 c1 : Array Value) (eY : Y = W.alloc (.cells #[.string nm, .int .i64 k, .int .i64 m, .string t, .slice A n c] 76)) (eX : X = (Y.alloc (.cells c0 78)).alloc (.cells c1 78)) =>
    (show RW 78 X (W.heap.size + 1 + 1) c1 ∧ RW 78 X (W.heap.size + 1) c0 ∧ Below W.heap.size W X ∧ X.heap.size = W.heap.size + 3 from by
      subst eX; subst eY
      refine ⟨?_, ?_, ((below_alloc _ _).alloc (by simp) _).alloc (by simp; omega) _, by simp⟩
      · have := RW.new ((W.alloc (.cells #[.string nm, .int .i64 k, .int .i64 m, .string t, .slice A n c] 76)).alloc (.cells c0 78)) c1 78
        simpa using this
      · have := (RW.new (W.alloc (.cells #[.string nm, .int .i64 k, .int .i64 m, .string t, .slice A n c] 76)) c0 78).alloc (.cells c1 78)
        simpa using this))
  show Calls Tryd.prog 56 #[.agg #[.string nm, .int .i64 k, .int .i64 m, .string t, .slice A n c]] W _
  go_enter Tryd.func56, Tryd.ntmps56
  go_wp2_with (first
    | (go_at_call 12; obtain ⟨g1, g4, g2, g3⟩ := HC.out _ _ _ _ rfl rfl; refine Calls.mono (HQ.out _ g2) ?_; rintro e w1 ⟨g, he, h⟩; obtain rfl : e = .returned (.agg #[.int .i64 k, .int .i64 m, .string t, .slice (some ⟨g, 0, none⟩) n n]) := he; obtain ⟨hv, hb⟩ := h.out; rw [g3] at hv; have HR1 := Lib.hid (g1.below hb (by omega)); have HO1 := Lib.hid (g4.below hb (by omega)); have HB1 := Lib.hid (g2.trans (hb.mono g2.size)); have HG1 : Hid (W.heap.size + 3 ≤ w1.heap.size) := (by have := hb.size; show _ ≤ _; omega); have HTH : Hid (w1.there (W.heap.size + 1 + 1) 1 4) := HR1.out.there (by simp); have hss : (w1.setCells (W.heap.size + 1 + 1) 1 [.int .i64 k, .int .i64 m, .string t, .slice (some ⟨g, 0, none⟩) n n]).heap.size = w1.heap.size := size_setsPt _ _ _ _; have HV2 : Hid (t.size ≤ maxLen ∧ PtO (w1.setCells (W.heap.size + 1 + 1) 1 [.int .i64 k, .int .i64 m, .string t, .slice (some ⟨g, 0, none⟩) n n]) d (W.heap.size + 3) w1.heap.size (some ⟨g, 0, none⟩) n ks) := ⟨hv.1, hv.2.keep (keepO_cells (W.heap.size + 1 + 1) _ w1 1) (.inr (by omega))⟩; have HR2 : Hid (RW 78 (w1.setCells (W.heap.size + 1 + 1) 1 [.int .i64 k, .int .i64 m, .string t, .slice (some ⟨g, 0, none⟩) n n]) (W.heap.size + 1 + 1) #[.string nm, .int .i64 k, .int .i64 m, .string t, .slice (some ⟨g, 0, none⟩) n n]) := HR1.out.cells; have HO2 : Hid (RW 78 (w1.setCells (W.heap.size + 1 + 1) 1 [.int .i64 k, .int .i64 m, .string t, .slice (some ⟨g, 0, none⟩) n n]) (W.heap.size + 1) #[.string ⟨#[]⟩, .int .i64 0, .int .i64 0, .string ⟨#[]⟩, .slice none 0 0]) := HO1.out.others (by omega); have HB2 : Hid (Below W.heap.size W (w1.setCells (W.heap.size + 1 + 1) 1 [.int .i64 k, .int .i64 m, .string t, .slice (some ⟨g, 0, none⟩) n n])) := HB1.out.trans (below_cells (by omega) _ _ _); have HG2 : Hid (W.heap.size + 3 ≤ (w1.setCells (W.heap.size + 1 + 1) 1 [.int .i64 k, .int .i64 m, .string t, .slice (some ⟨g, 0, none⟩) n n]).heap.size ∧ (w1.setCells (W.heap.size + 1 + 1) 1 [.int .i64 k, .int .i64 m, .string t, .slice (some ⟨g, 0, none⟩) n n]).heap.size = w1.heap.size) := ⟨by rw [hss]; exact HG1.out, hss⟩; have tk1 : True := trivial; clear g1 g2 g3 g4 h hv hb HQ hss HR1 HO1 HB1)
    | (clear tk1; refine wpList_store_mid rfl 29 (.tmp 10) (.tmp 9) rfl (W.heap.size + 1 + 1) 1 _ rfl rfl HTH.out (by kernel_rfl) (by kernel_rfl) ?_; go_frame; clear HTH; generalize w1.setCells (W.heap.size + 1 + 1) 1 [.int .i64 k, .int .i64 m, .string t, .slice (some ⟨g, 0, none⟩) n n] = w2 at HV2 HR2 HO2 HB2 HG2 ⊢; have p0 : w2.cell? ⟨W.heap.size + 1 + 1, 0, none⟩ = some (.string nm) := HR2.out.cell 0; have f0 := HR2.out.frozen 0; have r0 : w2.cell? ⟨W.heap.size + 1, 0, none⟩ = some (.string ⟨#[]⟩) := HO2.out.cell 0; have z0 := HO2.out.frozen 0; have p1 : w2.cell? ⟨W.heap.size + 1 + 1, 1, none⟩ = some (.int .i64 k) := HR2.out.cell 1; have f1 := HR2.out.frozen 1; have r1 : w2.cell? ⟨W.heap.size + 1, 1, none⟩ = some (.int .i64 0) := HO2.out.cell 1; have z1 := HO2.out.frozen 1; have p2 : w2.cell? ⟨W.heap.size + 1 + 1, 2, none⟩ = some (.int .i64 m) := HR2.out.cell 2; have f2 := HR2.out.frozen 2; have r2 : w2.cell? ⟨W.heap.size + 1, 2, none⟩ = some (.int .i64 0) := HO2.out.cell 2; have z2 := HO2.out.frozen 2; have p3 : w2.cell? ⟨W.heap.size + 1 + 1, 3, none⟩ = some (.string t) := HR2.out.cell 3; have f3 := HR2.out.frozen 3; have r3 : w2.cell? ⟨W.heap.size + 1, 3, none⟩ = some (.string ⟨#[]⟩) := HO2.out.cell 3; have z3 := HO2.out.frozen 3; have p4 : w2.cell? ⟨W.heap.size + 1 + 1, 4, none⟩ = some (.slice (some ⟨g, 0, none⟩) n n) := HR2.out.cell 4; have f4 := HR2.out.frozen 4; have r4 : w2.cell? ⟨W.heap.size + 1, 4, none⟩ = some (.slice none 0 0) := HO2.out.cell 4; have z4 := HO2.out.frozen 4))
  have hs1 := HG1.out
  have hs2 := HG2.out.1
  have hb1 : Below (W.heap.size + 1) w2 ((((((w2.setCell ⟨W.heap.size + 1, 0, none⟩ (.string nm)).setCell ⟨W.heap.size + 1, 1, none⟩ (.int .i64 k)).setCell ⟨W.heap.size + 1, 2, none⟩ (.int .i64 m)).setCell ⟨W.heap.size + 1, 3, none⟩ (.string t)).setCell ⟨W.heap.size + 1, 4, none⟩ (.slice (some ⟨g, 0, none⟩) n n))) := (((((below_set w2 (p := ⟨W.heap.size + 1, 0, none⟩) (by simp) _).setCell (by simp) _).setCell (by simp) _).setCell (by simp) _).setCell (by simp) _)
  have hzz : ((((((w2.setCell ⟨W.heap.size + 1, 0, none⟩ (.string nm)).setCell ⟨W.heap.size + 1, 1, none⟩ (.int .i64 k)).setCell ⟨W.heap.size + 1, 2, none⟩ (.int .i64 m)).setCell ⟨W.heap.size + 1, 3, none⟩ (.string t)).setCell ⟨W.heap.size + 1, 4, none⟩ (.slice (some ⟨g, 0, none⟩) n n))).heap.size = w2.heap.size := by simp [World.setCell]
  refine bodyPost_ret (v := .agg #[.string nm, .int .i64 k, .int .i64 m, .string t, .slice (some ⟨g, 0, none⟩) n n]) (results_cell_row Tryd.results56 _ _ (W.heap.size + 1) 78 _ (0, 0) _ rfl (((((HO2.out.set_ 0 (.string nm)).set_ 1 (.int .i64 k)).set_ 2 (.int .i64 m)).set_ 3 (.string t)).set_ 4 (.slice (some ⟨g, 0, none⟩) n n)) Tryd.underlying78 rfl (by kernel_rfl)) rfl ⟨g, rfl, Lib.hid ⟨⟨HT.out, HTT.out, ?_⟩, HB2.out.trans (hb1.mono (by omega))⟩⟩
  rw [hzz, HG2.out.2]
  exact (HV2.out.2.keep (a := W.heap.size + 1) (b := W.heap.size + 2) (((((KeepO.set w2 (p := ⟨W.heap.size + 1, 0, none⟩) (by dsimp only; omega) (by dsimp only; omega) _).trans (KeepO.set _ (p := ⟨W.heap.size + 1, 1, none⟩) (by dsimp only; omega) (by dsimp only; omega) _)).trans (KeepO.set _ (p := ⟨W.heap.size + 1, 2, none⟩) (by dsimp only; omega) (by dsimp only; omega) _)).trans (KeepO.set _ (p := ⟨W.heap.size + 1, 3, none⟩) (by dsimp only; omega) (by dsimp only; omega) _)).trans (KeepO.set _ (p := ⟨W.heap.size + 1, 4, none⟩) (by dsimp only; omega) (by dsimp only; omega) _)) (.inr (by omega))).mono (by omega) (Nat.le_refl _)

def Row5 (cs : Array Value) (j : Nat) (x : Nm) (A : Option Addr) (n c : Nat) : Prop := ∀ (q : Nat) (v : Value), (x.vs A n c)[q]? = some v → cs[j * 5 + q]? = some v
/-- A slice of named patterns of one's own: the row at the head, the Kids' rows behind it. -/
def NmO (w : World) (d lo hi : Nat) (A : Option Addr) (n : Nat) (xs : List Nm) : Prop :=
  xs.length = n ∧ n ≤ maxLen ∧ (0 < n → ∃ (g : Nat) (cs : Array Value) (ls : Nat → Nat), A = some ⟨g, 0, none⟩ ∧ lo ≤ g ∧ g < ls 0 ∧ ls n ≤ hi ∧ (∀ j, j < n → ls j ≤ ls (j + 1)) ∧ RW 78 w g cs ∧ n * 5 ≤ cs.size ∧
      ∀ (j : Nat) (x : Nm), xs[j]? = some x → ∃ (A' : Option Addr) (n' c' : Nat), n' ≤ c' ∧ Row5 cs j x A' n' c' ∧ (x.name.size ≤ maxLen ∧ x.pt.t.size ≤ maxLen) ∧ PtO w d (ls j) (ls (j + 1)) A' n' x.pt.kids)
theorem NmO.keep {w w' : World} {a b d lo hi n : Nat} {A : Option Addr} {xs : List Nm} (hk : KeepO a b w w') (h : NmO w d lo hi A n xs) (hd : hi ≤ a ∨ b ≤ lo) : NmO w' d lo hi A n xs := ⟨h.1, h.2.1, fun hn => by
    obtain ⟨g, cs, ls, e, k1, k2, k3, k4, k5, k6, k7⟩ := h.2.2 hn
    have h0n := ls_mono k4 (show 0 ≤ n by omega) (Nat.le_refl _)
    refine ⟨g, cs, ls, e, k1, k2, k3, k4, hk.row k5 (by omega), k6, fun j x hx => ?_⟩
    obtain ⟨A', n', c', m1, m2, m3, m4⟩ := k7 j x hx
    have hj : j < n := by have := (List.getElem?_eq_some_iff.1 hx).1; have := h.1; omega
    have q1 := ls_mono k4 (show 0 ≤ j by omega) (by omega)
    have q2 := ls_mono k4 (show j + 1 ≤ n by omega) (Nat.le_refl _)
    exact ⟨A', n', c', m1, m2, m3, PtO.keep hk m4 (by omega)⟩⟩
theorem NmO.below {w w' : World} {B d lo hi n : Nat} {A : Option Addr} {xs : List Nm} (h : NmO w d lo hi A n xs) (hb : Below B w w') (hB : hi ≤ B) (hs : B ≤ w.heap.size) : NmO w' d lo hi A n xs :=
  h.keep (a := B) (b := w.heap.size) ⟨hb.os, hb.tape, hb.output, hb.size, fun k hk ho => hb.block k (by omega)⟩ (.inl hB)
theorem NmO.tree {w : World} {d lo hi n : Nat} {A : Option Addr} {xs : List Nm} (h : NmO w d lo hi A n xs) : NmI w lo hi d A n xs := ⟨h.1, h.2.1, fun hn => by
    obtain ⟨g, cs, ls, e, k1, k2, k3, k4, k5, k6, k7⟩ := h.2.2 hn
    have h0n := ls_mono k4 (show 0 ≤ n by omega) (Nat.le_refl _)
    refine ⟨g, 0, e, k1, by omega, fun j x hx => ?_⟩
    obtain ⟨A', n', c', m1, m2, m3, m4⟩ := k7 j x hx
    have hj : j < n := by have := (List.getElem?_eq_some_iff.1 hx).1; have := h.1; omega
    have q1 := ls_mono k4 (show 0 ≤ j by omega) (by omega)
    have q2 := ls_mono k4 (show j + 1 ≤ n by omega) (Nat.le_refl _)
    rw [Nat.zero_add]
    have kk : ∀ q v, (x.vs A' n' c')[q]? = some v → w.cell? ⟨g, j * 5 + q, none⟩ = some v := fun q v hq => (k5.cell _).trans (m2 q v hq)
    exact ⟨A', n', c', m1, ⟨kk 0 _ rfl, kk 1 _ rfl, kk 2 _ rfl, kk 3 _ rfl, kk 4 _ rfl⟩, m3.1, m3.2, (PtO.tree m4).more (by omega) (by omega)⟩⟩
/-- The elements of block g ahead of j are filled; their Kids lie above it, one behind the other. -/
def FilledNo (w : World) (g d j n : Nat) (xs : List Nm) : Prop :=
  ∃ (cs : Array Value) (ls : Nat → Nat), RW 78 w g cs ∧ n * 5 ≤ cs.size ∧ g < ls 0 ∧ (∀ i, ls i ≤ ls (i + 1)) ∧ (∀ i, ls i ≤ w.heap.size) ∧ ∀ (i : Nat) (x : Nm), i < j → xs[i]? = some x → ∃ (A' : Option Addr) (n' : Nat), Row5 cs i x A' n' n' ∧ (x.name.size ≤ maxLen ∧ x.pt.t.size ≤ maxLen) ∧ PtO w d (ls i) (ls (i + 1)) A' n' x.pt.kids
theorem row5_store {cs : Array Value} {j : Nat} {x : Nm} {A : Option Addr} {n c : Nat} (hs : j * 5 + 5 ≤ cs.size) : Row5 (putL cs (j * 5) (x.vs A n c)) j x A n c := fun q v hq => putL_new _ _ _ _ _ (by rw [show (x.vs A n c).length = 5 from rfl]; omega) hq
theorem row5_other {cs : Array Value} {i j : Nat} {x y : Nm} {A A' : Option Addr} {n c n' c' : Nat} (h : Row5 cs i y A' n' c') (hn : i < j) : Row5 (putL cs (j * 5) (x.vs A n c)) i y A' n' c' := fun q v hq => by
  have hq5 : q < 5 := (List.getElem?_eq_some_iff.1 hq).1
  rw [putL_old _ _ _ _ (by omega)]
  exact h q v hq
theorem FilledNo.store {w w2 : World} {g d j n : Nat} {xs : List Nm} {x : Nm} {A' : Option Addr} {n' : Nat} (h : FilledNo w g d j n xs) (hb : Below w.heap.size w w2) (hx : xs[j]? = some x) (hj : j < n) (ht : x.name.size ≤ maxLen ∧ x.pt.t.size ≤ maxLen) (h5 : PtO w2 d w.heap.size w2.heap.size A' n' x.pt.kids) :
    FilledNo (w2.setCells g (j * 5) (x.vs A' n' n')) g d (j + 1) n xs := by
  obtain ⟨cs, ls, hr, hn, hg, hm, hw, hf⟩ := h
  have hsz : (w2.setCells g (j * 5) (x.vs A' n' n')).heap.size = w2.heap.size := size_setsPt _ _ _ _
  have hgl := hr.lt
  have hkk : KeepO g (g + 1) w2 (w2.setCells g (j * 5) (x.vs A' n' n')) := keepO_cells _ _ _ _
  have h0i : ∀ i, g < ls i := fun i => Nat.lt_of_lt_of_le hg (ls_mono (n := i) (fun q _ => hm q) (Nat.zero_le i) (Nat.le_refl i))
  refine ⟨_, fun i => if i ≤ j then ls i else w2.heap.size, (hr.below hb hgl).cells, by rw [putL_size]; exact hn, ?_, ?_, ?_, ?_⟩
  · show g < (if 0 ≤ j then ls 0 else _)
    rw [if_pos (by omega)]
    exact hg
  · intro i
    show (if i ≤ j then ls i else _) ≤ (if i + 1 ≤ j then ls (i + 1) else _)
    by_cases h1 : i + 1 ≤ j
    · rw [if_pos (by omega), if_pos h1]; exact hm i
    · rw [if_neg h1]
      by_cases h2 : i ≤ j
      · rw [if_pos h2]; exact Nat.le_trans (hw i) hb.size
      · rw [if_neg h2]; exact Nat.le_refl _
  · intro i
    show (if i ≤ j then ls i else _) ≤ _
    rw [hsz]
    by_cases h2 : i ≤ j
    · rw [if_pos h2]; exact Nat.le_trans (hw i) hb.size
    · rw [if_neg h2]; exact Nat.le_refl _
  · intro i y hi hy
    show ∃ (A'' : Option Addr) (n'' : Nat), Row5 _ i y A'' n'' n'' ∧ _ ∧ PtO _ d (if i ≤ j then ls i else w2.heap.size) (if i + 1 ≤ j then ls (i + 1) else w2.heap.size) A'' n'' y.pt.kids
    have := h0i i
    by_cases e : i = j
    · subst e
      rw [hx, Option.some.injEq] at hy
      subst hy
      rw [if_pos (Nat.le_refl _), if_neg (by omega)]
      exact ⟨A', n', row5_store (by omega), ht, (h5.keep hkk (.inr (by omega))).mono (hw i) (Nat.le_refl _)⟩
    · obtain ⟨A'', n'', k1, k2, k3⟩ := hf i y (by omega) hy
      rw [if_pos (by omega), if_pos (by omega)]
      exact ⟨A'', n'', row5_other k1 (by omega), k2, ((k3.below hb (hw _) (Nat.le_refl _)).keep hkk (.inr (by omega)))⟩
theorem FilledNo.all {w : World} {g d n : Nat} {xs : List Nm} (h : FilledNo w g d n n xs) (hl : xs.length = n) (hn : n ≤ maxLen) : NmO w d g w.heap.size (some ⟨g, 0, none⟩) n xs := by
  obtain ⟨cs, ls, hr, hc, hg, hm, hw, hf⟩ := h
  refine ⟨hl, hn, fun _ => ⟨g, cs, ls, rfl, Nat.le_refl _, hg, hw n, fun j _ => hm j, hr, hc, fun j x hx => ?_⟩⟩
  obtain ⟨A', n', k1, k2, k3⟩ := hf j x (by rw [← hl]; exact (List.getElem?_eq_some_iff.1 hx).1) hx
  exact ⟨A', n', n', Nat.le_refl _, k1, k2, k3⟩
/-- What toNamedS answers. -/
def ToNmSO (d : Nat) (xs : List Nm) (n : Nat) (W : World) (e : Ending) (w' : World) : Prop :=
  e = .returned (.slice (some ⟨W.heap.size, 0, none⟩) n n) ∧ Hid (NmO w' d W.heap.size w'.heap.size (some ⟨W.heap.size, 0, none⟩) n xs ∧ Below W.heap.size W w')

set_option maxHeartbeats 2000000 in
set_option maxRecDepth 100000 in
theorem toNamedSO_any (d : Nat) (A : Option Addr) (n c : Nat) (xs : List Nm) (W : World) (hr : NmI W 0 W.heap.size d A n xs) (hs : ∀ (j : Nat) (x : Nm), xs[j]? = some x → szNm1 x ≤ 1048576) (hn : n ≤ 1048576) :
    Calls Tryd.prog 21 #[.slice A n c] W (ToNmSO d xs n W) := by
  obtain ⟨i0, hi, hz0, hz1, hz2⟩ := info_parts infoNm
  have HR := Lib.hid hr
  have HS := Lib.hid hs
  have h1 : (n : Int) ≤ 1048576 := by omega
  clear hr hs
  go_enter Tryd.func21, Tryd.ntmps21
  go_wp2_with (at_make; refine wpList_make_full _ rfl _ _ 43 rfl W.heap.size 78 i0 (.agg #[.string ⟨#[]⟩, .int .i64 0, .int .i64 0, .string ⟨#[]⟩, .slice none 0 0]) 5 Tryd.underlying43 hi hz0 hz1 .i64 .i64 n n n rfl rfl rfl rfl (by rw [hz2]; omega) (by unfold maxLen; omega) (Nat.le_refl _) ?_)
  intro w1 hown hgrow
  have HB1 : Hid (Below W.heap.size W w1) := below_grown_none hgrow
  obtain ⟨cs, hcs, hcn⟩ := ownNm hown
  have HG : Hid (W.heap.size < w1.heap.size) := hcs.lt
  have HM : Hid (FilledNo w1 W.heap.size d 0 n xs) := ⟨cs, fun _ => w1.heap.size, hcs, hcn, hcs.lt, fun _ => Nat.le_refl _, fun _ => Nat.le_refl _, fun i x hi => absurd hi (by omega)⟩
  clear hown hgrow hcs hcn hi hz0 hz1 hz2
  go_wp2_with fail
  go_loopw [4] (fun i wr => ∃ j : Nat, j ≤ n ∧ i = .int .i64 j ∧ Hid (Below W.heap.size W wr) ∧ Hid (W.heap.size < wr.heap.size) ∧ Hid (FilledNo wr W.heap.size d j n xs)) (fun i _ => n - (intOf i).toNat)
  case atStart => exact ⟨0, Nat.zero_le _, rfl, HB1, HG, HM⟩
  case round =>
    obtain ⟨j, hj, rfl, HW, HZ, HJ⟩ := hrel
    by_cases hlt : j < n
    · obtain ⟨b, off, x, A1, n1, c1, rfl, _, hg, hx, _, ⟨q0, q1, q2, q3, q4⟩, hov⟩ := (HR.out.below HW.out).at_ hlt
      have HX := Lib.hid hx
      have HO := Lib.hid (hov.more (Nat.le_refl _) HW.out.size)
      have HLT := Lib.hid hlt
      have HS1 := Lib.hid (HS.out j x hx)
      clear hx hov hg
      have b0 : (0 : Int) ≤ (j : Int) := by omega
      have b1 : (j : Int) < (n : Int) := by omega
      have HQ := Lib.hid (toNamedO_any d x A1 n1 c1 wr HO.out HS1.out)
      go_wp2_with (first | (go_at_call 56; refine Calls.mono HQ.out ?_; clear HQ; rintro e w2 ⟨gk, rfl, h⟩; obtain ⟨hv, hb⟩ := h.out; have hlt2 := HLT.out; have hzz := HZ.out; have HF2 : Hid (FilledNo (w2.setCells W.heap.size (j * 5) [.string x.name, .int .i64 x.pt.k, .int .i64 x.pt.n, .string x.pt.t, .slice (some ⟨gk, 0, none⟩) n1 n1]) W.heap.size d (j + 1) n xs) := (by have k := HJ.out.store hb HX.out hlt2 ⟨hv.1, hv.2.1⟩ hv.2.2; unfold Nm.vs at k; exact k); have HT : Hid (w2.there W.heap.size (j * 5) 5) := (by obtain ⟨cs, ls, hr, hc, _⟩ := HJ.out; exact (hr.below hb hr.lt).there (by omega)); have HW2 : Hid (Below W.heap.size W (w2.setCells W.heap.size (j * 5) [.string x.name, .int .i64 x.pt.k, .int .i64 x.pt.n, .string x.pt.t, .slice (some ⟨gk, 0, none⟩) n1 n1])) := ((HW.out.trans (hb.mono HW.out.size)).trans (below_cells (Nat.le_refl _) _ _ _)); have HZ2 : Hid (W.heap.size < (w2.setCells W.heap.size (j * 5) [.string x.name, .int .i64 x.pt.k, .int .i64 x.pt.n, .string x.pt.t, .slice (some ⟨gk, 0, none⟩) n1 n1]).heap.size) := (by obtain ⟨_, _, hr, _⟩ := HF2.out; exact hr.lt); have tk1 : True := trivial; clear h hv hb hlt2 hzz q0 q1 q2 q3 q4) | (clear tk1; refine wpList_store_mid rfl 78 (.tmp 21) (.tmp 20) rfl W.heap.size (j * 5) _ rfl rfl HT.out (by kernel_rfl) (by kernel_rfl) ?_; go_frame; clear HT; generalize w2.setCells W.heap.size (j * 5) [.string x.name, .int .i64 x.pt.k, .int .i64 x.pt.n, .string x.pt.t, .slice (some ⟨gk, 0, none⟩) n1 n1] = w3 at HF2 HW2 HZ2 ⊢))
      go_roundw
      case rel => exact ⟨j + 1, by omega, by go_num, HW2, HZ2, HF2⟩
      case measure => simp [intOf]; omega
    · have HN : Hid (j = n) := by show _ = _; omega
      go_wp2_with fail
      go_ret
      have h := HJ.out
      rw [HN.out] at h
      exact ⟨rfl, Lib.hid ⟨h.all HR.out.1 HR.out.2.1, HW.out⟩⟩
end Go.Proofs.YtjeiiljdhnmofaaDoor
