/- Contract: referenceKind of the program. No condition. -/
import Derived.Test.YtbdmanadmckjjaaDoorObKind
namespace Go.Proofs.YtbdmanadmckjjaaDoor
open Go Go.RowKit Go.Sort

theorem as_arrayObject_arrayObject (o : Ob) (l : Lay) (w : World) : (Instr.typeAssert (.iface 105 (o.ag l)) 102 105 true).run Tryd.prog w = .ok (.tuple #[o.ag l, .bool true]) w := by kernel_rfl
theorem as_arrayObject_tableObject (o : Ob) (l : Lay) (w : World) : (Instr.typeAssert (.iface 105 (o.ag l)) 102 106 true).run Tryd.prog w = .ok (.tuple #[(.agg #[.int .i64 0, .int .i64 0, .string ⟨#[]⟩, .int .i64 0, .slice none 0 0, .slice none 0 0, .int .i64 0, .int .i64 0, .string ⟨#[]⟩, .int .i64 0]), .bool false]) w := by kernel_rfl
theorem as_arrayObject_recordObject (o : Ob) (l : Lay) (w : World) : (Instr.typeAssert (.iface 105 (o.ag l)) 102 108 true).run Tryd.prog w = .ok (.tuple #[(.agg #[.int .i64 0, .int .i64 0, .string ⟨#[]⟩, .int .i64 0, .slice none 0 0, .slice none 0 0, .int .i64 0, .int .i64 0, .string ⟨#[]⟩, .int .i64 0]), .bool false]) w := by kernel_rfl
theorem as_tableObject_arrayObject (o : Ob) (l : Lay) (w : World) : (Instr.typeAssert (.iface 106 (o.ag l)) 102 105 true).run Tryd.prog w = .ok (.tuple #[(.agg #[.int .i64 0, .int .i64 0, .string ⟨#[]⟩, .int .i64 0, .slice none 0 0, .slice none 0 0, .int .i64 0, .int .i64 0, .string ⟨#[]⟩, .int .i64 0]), .bool false]) w := by kernel_rfl
theorem as_tableObject_tableObject (o : Ob) (l : Lay) (w : World) : (Instr.typeAssert (.iface 106 (o.ag l)) 102 106 true).run Tryd.prog w = .ok (.tuple #[o.ag l, .bool true]) w := by kernel_rfl
theorem as_tableObject_recordObject (o : Ob) (l : Lay) (w : World) : (Instr.typeAssert (.iface 106 (o.ag l)) 102 108 true).run Tryd.prog w = .ok (.tuple #[(.agg #[.int .i64 0, .int .i64 0, .string ⟨#[]⟩, .int .i64 0, .slice none 0 0, .slice none 0 0, .int .i64 0, .int .i64 0, .string ⟨#[]⟩, .int .i64 0]), .bool false]) w := by kernel_rfl
theorem as_recordObject_arrayObject (o : Ob) (l : Lay) (w : World) : (Instr.typeAssert (.iface 108 (o.ag l)) 102 105 true).run Tryd.prog w = .ok (.tuple #[(.agg #[.int .i64 0, .int .i64 0, .string ⟨#[]⟩, .int .i64 0, .slice none 0 0, .slice none 0 0, .int .i64 0, .int .i64 0, .string ⟨#[]⟩, .int .i64 0]), .bool false]) w := by kernel_rfl
theorem as_recordObject_tableObject (o : Ob) (l : Lay) (w : World) : (Instr.typeAssert (.iface 108 (o.ag l)) 102 106 true).run Tryd.prog w = .ok (.tuple #[(.agg #[.int .i64 0, .int .i64 0, .string ⟨#[]⟩, .int .i64 0, .slice none 0 0, .slice none 0 0, .int .i64 0, .int .i64 0, .string ⟨#[]⟩, .int .i64 0]), .bool false]) w := by kernel_rfl
theorem as_recordObject_recordObject (o : Ob) (l : Lay) (w : World) : (Instr.typeAssert (.iface 108 (o.ag l)) 102 108 true).run Tryd.prog w = .ok (.tuple #[o.ag l, .bool true]) w := by kernel_rfl
theorem as_nil_arrayObject (w : World) : (Instr.typeAssert .nilIface 102 105 true).run Tryd.prog w = .ok (.tuple #[(.agg #[.int .i64 0, .int .i64 0, .string ⟨#[]⟩, .int .i64 0, .slice none 0 0, .slice none 0 0, .int .i64 0, .int .i64 0, .string ⟨#[]⟩, .int .i64 0]), .bool false]) w := by kernel_rfl
theorem as_nil_tableObject (w : World) : (Instr.typeAssert .nilIface 102 106 true).run Tryd.prog w = .ok (.tuple #[(.agg #[.int .i64 0, .int .i64 0, .string ⟨#[]⟩, .int .i64 0, .slice none 0 0, .slice none 0 0, .int .i64 0, .int .i64 0, .string ⟨#[]⟩, .int .i64 0]), .bool false]) w := by kernel_rfl
theorem as_nil_recordObject (w : World) : (Instr.typeAssert .nilIface 102 108 true).run Tryd.prog w = .ok (.tuple #[(.agg #[.int .i64 0, .int .i64 0, .string ⟨#[]⟩, .int .i64 0, .slice none 0 0, .slice none 0 0, .int .i64 0, .int .i64 0, .string ⟨#[]⟩, .int .i64 0]), .bool false]) w := by kernel_rfl
/-- The kind of the values that refer to an object. -/
def refKind (o : Ob) : Int := if o.kind = 1 then 4 else if o.kind = 2 then 5 else if o.kind = 3 then 6 else 0
set_option maxHeartbeats 4000000 in
set_option maxRecDepth 100000 in
theorem referenceKind_any (o : Ob) (l : Lay) (W : World) :
    Calls Tryd.prog 73 #[o.ag l] W fun e w' => e = .returned (.int .i64 (refKind o)) ∧ Below W.heap.size W w' := by
  have HC := Lib.hid (one_new W 49 (o.vs l).toArray)
  show Calls Tryd.prog 73 #[.agg #[.int .i64 o.id, .int .i64 o.kind, .string o.name, .int .i64 o.low, .slice l.Ak l.nk l.ck, .slice l.Av l.nv l.cv, .int .i64 o.d.k, .int .i64 o.d.n, .string o.d.t, .int .i64 o.d.r]] W _
  by_cases k1 : o.kind = 1
  · have HK : Hid (kindV o l = .iface 105 (o.ag l)) := by show _ = _; unfold kindV; rw [if_pos k1]
    have e : refKind o = 4 := by unfold refKind; rw [if_pos k1]
    rw [e]
    clear e k1
    have a0 := as_arrayObject_arrayObject o l
    have a1 := as_arrayObject_tableObject o l
    have a2 := as_arrayObject_recordObject o l
    go_enter Tryd.func73, Tryd.ntmps73
    go_wp2_with (go_at_call 82; obtain ⟨g0, g1, g2⟩ := HC.out _ rfl; refine (ofKind_any o l _).mono ?_; rintro e w1 ⟨rfl, hb⟩; rw [HK.out]; have HB1 := Lib.hid (g1.trans (hb.mono g1.size)); clear g0 g1 g2 hb)
    all_goals go_ret
    all_goals exact ⟨rfl, HB1.out⟩
  by_cases k2 : o.kind = 2
  · have HK : Hid (kindV o l = .iface 106 (o.ag l)) := by show _ = _; unfold kindV; rw [if_neg k1, if_pos k2]
    have e : refKind o = 5 := by unfold refKind; rw [if_neg k1, if_pos k2]
    rw [e]
    clear e k1 k2
    have a0 := as_tableObject_arrayObject o l
    have a1 := as_tableObject_tableObject o l
    have a2 := as_tableObject_recordObject o l
    go_enter Tryd.func73, Tryd.ntmps73
    go_wp2_with (go_at_call 82; obtain ⟨g0, g1, g2⟩ := HC.out _ rfl; refine (ofKind_any o l _).mono ?_; rintro e w1 ⟨rfl, hb⟩; rw [HK.out]; have HB1 := Lib.hid (g1.trans (hb.mono g1.size)); clear g0 g1 g2 hb)
    all_goals go_ret
    all_goals exact ⟨rfl, HB1.out⟩
  by_cases k3 : o.kind = 3
  · have HK : Hid (kindV o l = .iface 108 (o.ag l)) := by show _ = _; unfold kindV; rw [if_neg k1, if_neg k2, if_pos k3]
    have e : refKind o = 6 := by unfold refKind; rw [if_neg k1, if_neg k2, if_pos k3]
    rw [e]
    clear e k1 k2 k3
    have a0 := as_recordObject_arrayObject o l
    have a1 := as_recordObject_tableObject o l
    have a2 := as_recordObject_recordObject o l
    go_enter Tryd.func73, Tryd.ntmps73
    go_wp2_with (go_at_call 82; obtain ⟨g0, g1, g2⟩ := HC.out _ rfl; refine (ofKind_any o l _).mono ?_; rintro e w1 ⟨rfl, hb⟩; rw [HK.out]; have HB1 := Lib.hid (g1.trans (hb.mono g1.size)); clear g0 g1 g2 hb)
    all_goals go_ret
    all_goals exact ⟨rfl, HB1.out⟩
  · have HK : Hid (kindV o l = .nilIface) := by show _ = _; unfold kindV; rw [if_neg k1, if_neg k2, if_neg k3]
    have e : refKind o = 0 := by unfold refKind; rw [if_neg k1, if_neg k2, if_neg k3]
    rw [e]
    clear e k1 k2 k3
    have a0 := as_nil_arrayObject
    have a1 := as_nil_tableObject
    have a2 := as_nil_recordObject
    go_enter Tryd.func73, Tryd.ntmps73
    go_wp2_with (go_at_call 82; obtain ⟨g0, g1, g2⟩ := HC.out _ rfl; refine (ofKind_any o l _).mono ?_; rintro e w1 ⟨rfl, hb⟩; rw [HK.out]; have HB1 := Lib.hid (g1.trans (hb.mono g1.size)); clear g0 g1 g2 hb)
    all_goals go_ret
    all_goals exact ⟨rfl, HB1.out⟩
end Go.Proofs.YtbdmanadmckjjaaDoor
