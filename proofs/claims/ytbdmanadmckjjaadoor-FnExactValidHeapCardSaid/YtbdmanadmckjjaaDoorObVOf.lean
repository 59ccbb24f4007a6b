/- Contract: valuesOf of the program at arrays and records. No condition. -/
import Derived.Test.YtbdmanadmckjjaaDoorObFitA
namespace Go.Proofs.YtbdmanadmckjjaaDoor
open Go Go.RowKit Go.Sort

theorem VI_row {w : World} {B : Nat} {o : Ob} {l : Lay} (h : OV w B o l) : VI w B l.Av l.nv o.vals := h.2.1

set_option maxHeartbeats 2000000 in
set_option maxRecDepth 100000 in
theorem valuesOf_1 (o : Ob) (l : Lay) (W : World) (k1 : o.kind = 1) :
    Calls Tryd.prog 60 #[o.ag l] W fun e w' => e = .returned (.slice l.Av l.nv l.cv) ∧ Below W.heap.size W w' := by
  have HK : Hid (kindV o l = .iface 105 (o.ag l)) := by show _ = _; unfold kindV; rw [if_pos k1]
  have HC := Lib.hid (one_new W 49 (o.vs l).toArray)
  clear k1
  have a0 := as_arrayObject_arrayObject o l
  have a1 := as_arrayObject_tableObject o l
  have a2 := as_arrayObject_recordObject o l
  show Calls Tryd.prog 60 #[.agg #[.int .i64 o.id, .int .i64 o.kind, .string o.name, .int .i64 o.low, .slice l.Ak l.nk l.ck, .slice l.Av l.nv l.cv, .int .i64 o.d.k, .int .i64 o.d.n, .string o.d.t, .int .i64 o.d.r]] W _
  go_enter Tryd.func60, Tryd.ntmps60
  go_wp2_with (go_at_call 82; obtain ⟨g0, g1, g2⟩ := HC.out _ rfl; refine (ofKind_any o l _).mono ?_; rintro e w1 ⟨rfl, hb⟩; rw [HK.out]; have HB1 := Lib.hid (g1.trans (hb.mono g1.size)); clear g0 g1 g2 hb)
  all_goals go_ret
  all_goals exact ⟨rfl, HB1.out.alloc HB1.out.size _⟩

set_option maxHeartbeats 2000000 in
set_option maxRecDepth 100000 in
theorem valuesOf_3 (o : Ob) (l : Lay) (W : World) (k1 : o.kind = 3) :
    Calls Tryd.prog 60 #[o.ag l] W fun e w' => e = .returned (.slice l.Av l.nv l.cv) ∧ Below W.heap.size W w' := by
  have HK : Hid (kindV o l = .iface 108 (o.ag l)) := by show _ = _; unfold kindV; simp [k1]
  have HC := Lib.hid (one_new W 49 (o.vs l).toArray)
  clear k1
  have a0 := as_recordObject_arrayObject o l
  have a1 := as_recordObject_tableObject o l
  have a2 := as_recordObject_recordObject o l
  show Calls Tryd.prog 60 #[.agg #[.int .i64 o.id, .int .i64 o.kind, .string o.name, .int .i64 o.low, .slice l.Ak l.nk l.ck, .slice l.Av l.nv l.cv, .int .i64 o.d.k, .int .i64 o.d.n, .string o.d.t, .int .i64 o.d.r]] W _
  go_enter Tryd.func60, Tryd.ntmps60
  go_wp2_with (go_at_call 82; obtain ⟨g0, g1, g2⟩ := HC.out _ rfl; refine (ofKind_any o l _).mono ?_; rintro e w1 ⟨rfl, hb⟩; rw [HK.out]; have HB1 := Lib.hid (g1.trans (hb.mono g1.size)); clear g0 g1 g2 hb)
  all_goals go_ret
  all_goals exact ⟨rfl, HB1.out.alloc HB1.out.size _⟩

end Go.Proofs.YtbdmanadmckjjaaDoor
