/- Contract: valuesOf of the program at every valid object. No condition. -/
import Derived.Test.YtbdmanadmckjjaaDoorContents
namespace Go.Proofs.YtbdmanadmckjjaaDoor
open Go Go.RowKit Go.Sort

/-- What valuesOf answers at a valid object. -/
def VOfT (o : Ob) (W : World) (e : Ending) (w' : World) : Prop := ∃ A n c, e = .returned (.slice A n c) ∧ Hid (VI w' w'.heap.size A n (contents o) ∧ Below W.heap.size W w')

set_option maxHeartbeats 2000000 in
set_option maxRecDepth 100000 in
theorem valuesOf_2 (o : Ob) (l : Lay) (W : World) (k1 : o.kind = 2) (ho : OV W W.heap.size o l) (hn : o.keys.length ≤ 30) (hl : o.keys.length = o.vals.length) :
    Calls Tryd.prog 60 #[o.ag l] W (VOfT o W) := by
  have HK : Hid (kindV o l = .iface 106 (o.ag l)) := by show _ = _; unfold kindV; simp [k1]
  have HE : Hid (contents o = pairsOf o.keys o.vals ++ [o.d]) := by show _ = _; unfold contents; rw [if_pos k1]
  have HC := Lib.hid (one_new W 49 (o.vs l).toArray)
  have HO := Lib.hid ho
  have HN := Lib.hid hn
  have HL := Lib.hid hl
  clear k1 ho hn hl
  have a0 := as_tableObject_arrayObject o l
  have a1 := as_tableObject_tableObject o l
  have a2 := as_tableObject_recordObject o l
  show Calls Tryd.prog 60 #[.agg #[.int .i64 o.id, .int .i64 o.kind, .string o.name, .int .i64 o.low, .slice l.Ak l.nk l.ck, .slice l.Av l.nv l.cv, .int .i64 o.d.k, .int .i64 o.d.n, .string o.d.t, .int .i64 o.d.r]] W _
  go_enter Tryd.func60, Tryd.ntmps60
  go_wp2_with (first
    | (go_at_call 82; obtain ⟨g0, g1, g2⟩ := HC.out _ rfl; refine (ofKind_any o l _).mono ?_; rintro e w1 ⟨rfl, hb⟩; rw [HK.out]; have HB1 := Lib.hid (g1.trans (hb.mono g1.size)); clear g0 g1 g2 hb)
    | (go_at_call 83; have hba := below_alloc w1 (.cells #[.int .i64 o.id, .int .i64 o.kind, .string o.name, .int .i64 o.low, .slice l.Ak l.nk l.ck, .slice l.Av l.nv l.cv, .int .i64 o.d.k, .int .i64 o.d.n, .string o.d.t, .int .i64 o.d.r] 106); have hbx := HB1.out.trans (hba.mono HB1.out.size); refine Calls.mono (contents_any o l _ (HO.out.go hbx) HN.out HL.out) ?_; rintro e w2 ⟨A9, n9, c9, rfl, h⟩; have H2 := Lib.hid (show VI w2 w2.heap.size A9 n9 (contents o) ∧ Below W.heap.size W w2 from ⟨by rw [HE.out]; exact h.out.1, hbx.trans (h.out.2.mono hbx.size)⟩); clear hba hbx h))
  all_goals go_ret
  all_goals exact ⟨_, _, _, rfl, H2⟩

theorem valuesOf_any (o : Ob) (l : Lay) (W : World) (hv : ValidO o) (ho : OV W W.heap.size o l) :
    Calls Tryd.prog 60 #[o.ag l] W (VOfT o W) := by
  obtain ⟨_, h1 | h2 | h3⟩ := hv
  · exact (valuesOf_1 o l W h1.1).mono fun e w' h => ⟨_, _, _, h.1, Lib.hid ⟨by rw [contents, if_neg (by have := h1.1; omega)]; exact (ho.go h.2).2.1, h.2⟩⟩
  · exact valuesOf_2 o l W h2.1 ho h2.2.2.2.2.1 h2.2.2.2.2.2.1
  · exact (valuesOf_3 o l W h3.1).mono fun e w' h => ⟨_, _, _, h.1, Lib.hid ⟨by rw [contents, if_neg (by have := h3.1; omega)]; exact (ho.go h.2).2.1, h.2⟩⟩
end Go.Proofs.YtbdmanadmckjjaaDoor
