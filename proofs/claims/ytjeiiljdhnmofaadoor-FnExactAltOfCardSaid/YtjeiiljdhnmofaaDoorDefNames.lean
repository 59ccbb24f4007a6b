/- Plain: the names to which a pattern refers; the contract of l11Names at a leaf. No condition. -/
import Derived.Test.YtjeiiljdhnmofaaDoorPtIter
import Derived.Test.YtjeiiljdhnmofaaDoorPtValS
import Derived.Test.YtjeiiljdhnmofaaDoorRowS0
import Derived.Lib.SlicesS
import Derived.Maps.AppendAt
import Derived.Deep.QuietTactic
import Derived.BigQuiet
import Derived.Lib.QuietBelow
namespace Go.Proofs.YtjeiiljdhnmofaaDoor
open Go Go.RowKit Go.Sort

theorem bytes_iff (a b : ByteArray) : (a.toList == b.toList) = true ↔ a = b := by
  rw [beq_iff_eq]
  exact ⟨fun h => WideShapes.bytes_inj (by rw [← ByteArray.toList_eq, ← ByteArray.toList_eq]; exact h), fun h => by rw [h]⟩
/-- A name that a node refers to comes behind the others, if it is not among them. -/
def addName (l : List ByteArray) (q : Core) : List ByteArray := if q.1 = 24 then (if Lib.containsS l q.2.2.1 = true then l else l ++ [q.2.2.1]) else l
def namesC (l : List ByteArray) (qs : List Core) : List ByteArray := qs.foldl addName l
theorem addName_len (l : List ByteArray) (q : Core) : l.length ≤ (addName l q).length ∧ (addName l q).length ≤ l.length + 1 := by
  unfold addName
  split
  · split
    · omega
    · simp
  · omega
theorem namesC_len : ∀ (qs : List Core) (l : List ByteArray), (namesC l qs).length ≤ l.length + qs.length
  | [], l => by simp [namesC]
  | q :: qs, l => by
    have h1 := namesC_len qs (addName l q)
    have h2 := addName_len l q
    show (namesC (addName l q) qs).length ≤ _
    rw [List.length_cons]
    omega
theorem namesC_app (l : List ByteArray) (a b : List Core) : namesC l (a ++ b) = namesC (namesC l a) b := List.foldl_append

/-- A row of strings of one's own. -/
abbrev OwnS (w : World) (B : Nat) (v : Value) (l : List ByteArray) : Prop := w.ownsRow B 9 1 v l.length (l.map Value.string)
theorem ownS_row {w : World} {B : Nat} {v : Value} {l : List ByteArray} (h : OwnS w B v l) : (v = .slice none 0 0 ∧ l = []) ∨ ∃ g c, v = .slice (some ⟨g, 0, none⟩) l.length c ∧ B ≤ g ∧ g < w.heap.size ∧ v.ownBlock = some g ∧ ∀ (j : Nat) (x : ByteArray), l[j]? = some x → w.cell? ⟨g, j, none⟩ = some (.string x) := by
  rcases h.2 with ⟨rfl, h0⟩ | ⟨g, cap, cur, rfl, hg, hh, hnc, _, hcs, ht⟩
  · have h1 : l = [] := List.eq_nil_of_length_eq_zero (by omega)
    exact .inl ⟨rfl, h1⟩
  · refine .inr ⟨g, cap, rfl, hg, (Array.getElem?_eq_some_iff.1 hh).1, rfl, fun j x hx => ?_⟩
    have hj : j < l.length := (List.getElem?_eq_some_iff.1 hx).1
    have := congrArg (·[j]?) ht
    simp only [List.getElem?_take, Nat.mul_one, if_pos hj, List.getElem?_map, hx, Option.map_some] at this
    rw [cell_of_row w g j cur _ (0, 0) hh, ← Array.getElem?_toList, this]
theorem ownS_keep {w w' : World} {B : Nat} {v : Value} {l : List ByteArray} (h : OwnS w B v l) (hb : Below w.heap.size w w') : OwnS w' B v l :=
  h.kept (row := none) ⟨hb.os, hb.tape, hb.output, hb.size, fun j hj _ => hb.block j hj⟩ (by cases hv : v.ownBlock <;> simp)
theorem ownS_lt {w : World} {B : Nat} {v : Value} {l : List ByteArray} (h : OwnS w B v l) {g : Nat} (e : v.ownBlock = some g) : B ≤ g ∧ g < w.heap.size := by
  rcases ownS_row h with ⟨rfl, _⟩ | ⟨g', c, rfl, h1, h2, h3, _⟩
  · simp [Value.ownBlock] at e
  · rw [h3, Option.some.injEq] at e
    subst e
    exact ⟨h1, h2⟩
/-- A row has grown: nothing else has turned. -/
structure GrowS (W : World) (v : Value) (w' : World) (v' : Value) : Prop where
  os : w'.os = W.os
  tape : w'.tape = W.tape
  output : w'.output = W.output
  size : W.heap.size ≤ w'.heap.size
  block : ∀ i, i < W.heap.size → v.ownBlock ≠ some i → w'.heap[i]? = W.heap[i]?
  own : v'.ownBlock = v.ownBlock ∨ ∀ g, v'.ownBlock = some g → W.heap.size ≤ g
theorem GrowS.of_below {W w' : World} (v : Value) (h : Below W.heap.size W w') : GrowS W v w' v := ⟨h.os, h.tape, h.output, h.size, fun i hi _ => h.block i hi, .inl rfl⟩
theorem GrowS.of_grown {W w0 w1 : World} {v v' : Value} (hb : Below W.heap.size W w0) (hg : w0.grownBy w1 v.ownBlock) (ho : v'.ownBlock = v.ownBlock ∨ v'.ownBlock = some w0.heap.size) : GrowS W v w1 v' :=
  ⟨hg.os.trans hb.os, hg.tape.trans hb.tape, hg.output.trans hb.output, Nat.le_trans hb.size hg.size, fun i hi hn => (hg.block i (Nat.lt_of_lt_of_le hi hb.size) (Ne.symm hn)).trans (hb.block i hi), ho.imp id (fun e g e2 => by rw [e, Option.some.injEq] at e2; have := hb.size; omega)⟩
theorem GrowS.trans {W w1 w2 : World} {v v1 v2 : Value} (h : GrowS W v w1 v1) (k : GrowS w1 v1 w2 v2) : GrowS W v w2 v2 := by
  refine ⟨k.os.trans h.os, k.tape.trans h.tape, k.output.trans h.output, Nat.le_trans h.size k.size, fun i hi hn => ?_, ?_⟩
  · refine (k.block i (Nat.lt_of_lt_of_le hi h.size) ?_).trans (h.block i hi hn)
    rcases h.own with e | e
    · rw [e]; exact hn
    · exact fun e2 => absurd (e i e2) (by omega)
  · rcases k.own with e | e
    · rw [e]; exact h.own
    · exact .inr fun g hg => Nat.le_trans h.size (e g hg)
theorem GrowS.row {W w' : World} {v v' : Value} {g : Nat} {T : TypeId} {cs : Array Value} (h : GrowS W v w' v') (hr : RW T W g cs) (hn : v.ownBlock ≠ some g) : RW T w' g cs := (h.block g hr.lt hn).trans hr
theorem GrowS.below {W w' : World} {v v' : Value} {B : Nat} {l : List ByteArray} (h : GrowS W v w' v') (ho : OwnS W B v l) (hB : B ≤ W.heap.size) : Below B W w' :=
  ⟨h.os, h.tape, h.output, h.size, fun i hi => h.block i (by omega) (fun e => by have := (ownS_lt ho e).1; omega)⟩

theorem strInfo : (Tryd.prog.info? 9).map (fun i => (i.zero, i.size, i.bytes)) = some (some (Value.string ⟨#[]⟩), 1, 16) := by kernel_rfl
theorem contains_in {l : List ByteArray} {t x : ByteArray} {k : Nat} (h : l[k]? = some x) (e : (x.toList == t.toList) = true) : Lib.containsS l t = true := by
  rw [(bytes_iff _ _).1 e] at h
  exact (Lib.containsS_iff _ _).2 (List.mem_of_getElem? h)
theorem contains_out {l : List ByteArray} {t : ByteArray} (h : ∀ (j : Nat) (x : ByteArray), l[j]? = some x → (x.toList == t.toList) = false) : Lib.containsS l t = false := by
  cases hc : Lib.containsS l t
  · rfl
  · obtain ⟨j, hj⟩ := List.mem_iff_getElem?.1 ((Lib.containsS_iff _ _).1 hc)
    have := h j t hj
    rw [(bytes_iff _ _).2 rfl] at this
    cases this
/-- The contract of l11Names at trees of depth at most d. -/
def NamesAt (d : Nat) : Prop := ∀ (x : Pt) (A : Option Addr) (n c : Nat) (v : Value) (l : List ByteArray) (B : Nat) (W : World), ptAll x → l.length + ptCnt x ≤ 100000 → x.t.size ≤ maxLen → PtD W 0 B d A n x.kids → B ≤ W.heap.size → OwnS W B v l →
  Calls Tryd.prog 66 #[x.ag A n c, v] W fun e w' => ∃ v', e = .returned v' ∧ OwnS w' B v' (namesC l (ptPre x)) ∧ GrowS W v w' v'

set_option maxHeartbeats 4000000 in
set_option maxRecDepth 100000 in
theorem names_leaf (m : Int) (t : ByteArray) (A : Option Addr) (n c : Nat) (v : Value) (l : List ByteArray) (B : Nat) (W : World) (hl : l.length ≤ 100000) (hB : B ≤ W.heap.size) (ho : OwnS W B v l) :
    Calls Tryd.prog 66 #[.agg #[.int .i64 24, .int .i64 m, .string t, .slice A n c], v] W fun e w' => ∃ v', e = .returned v' ∧ OwnS w' B v' (addName l (24, m, t, n)) ∧ GrowS W v w' v' := by
  obtain ⟨i0, hi0, hz0, hz1, hz2⟩ := info_parts strInfo
  have HO := Lib.hid ho
  have HBB := Lib.hid hB
  have HC := Lib.hid (fun X (e : X = W.alloc (.cells #[.int .i64 24, .int .i64 m, .string t, .slice A n c] 29)) => (show RW 29 X W.heap.size #[.int .i64 24, .int .i64 m, .string t, .slice A n c] ∧ Below W.heap.size W X ∧ W.heap.size < X.heap.size from by rw [e]; exact ⟨RW.new _ _ _, below_alloc _ _, lt_alloc _ _⟩))
  obtain ⟨R, hR⟩ : ∃ R, addName l (24, m, t, n) = R := ⟨_, rfl⟩
  rw [hR]
  have HR := Lib.hid hR
  clear hR
  have HEND : Hid (∀ w1, Below W.heap.size W w1 → R = l → ∃ v', Ending.returned v = .returned v' ∧ OwnS w1 B v' R ∧ GrowS W v w1 v') := by
    show ∀ w1, _ → _ → _
    intro w1 hb e
    exact ⟨v, rfl, by rw [e]; exact ownS_keep HO.out hb, .of_below v hb⟩
  rcases ownS_row ho with ⟨rfl, rfl⟩ | ⟨g, c1, rfl, hg1, hg2, hg3, hcl⟩
  · clear ho hB
    have HRR : Hid (R = [t]) := by show _ = _; rw [← HR.out]; rfl
    go_enter Tryd.func66, Tryd.ntmps66
    go_wp2_with fail
    go_loopw [5] (fun i wr => i = .int .i64 0 ∧ Hid (RW 29 wr W.heap.size #[.int .i64 24, .int .i64 m, .string t, .slice A n c]) ∧ Hid (Below W.heap.size W wr)) (fun _ _ => 0)
    case atStart => exact ⟨rfl, Lib.hid (HC.out _ rfl).1, Lib.hid (HC.out _ rfl).2.1⟩
    case round =>
      obtain ⟨rfl, HB, HW⟩ := hrel
      have q2 : wr.cell? ⟨W.heap.size, 2, none⟩ = some (.string t) := HB.out.cell 2
      go_wp2_with (at_builtin; refine wpList_append_own_at _ rfl _ _ 58 rfl B 9 i0 (.string ⟨#[]⟩) 1 16 Tryd.underlying58 hi0 hz0 hz1 hz2 rfl (by decide) _ _ _ rfl (World.ownsRow_nil _ _ _ _) ⟨wr.heap.size, 0, none⟩ 1 1 [.string t] rfl rfl (cell_one_new _ _ _) (fun x hx => by simp at hx; subst hx; rfl) (by unfold maxLen; omega) (by omega) (by have := HW.out.size; have := HBB.out; simp; omega) ?_; intro v1 w1 hown1 hgr1 _ hor)
      go_ret
      refine ⟨v1, rfl, ?_, ?_⟩
      · rw [HRR.out]; exact hown1
      · exact .of_grown (HW.out.trans (Below.mono (below_alloc _ _) HW.out.size)) hgr1 hor
  · clear ho hB
    have HCL := Lib.hid hcl
    have hll : (l.length : Int) ≤ 100000 := by omega
    go_enter Tryd.func66, Tryd.ntmps66
    go_wp2_with fail
    go_loopw [5] (fun i wr => ∃ k : Nat, k ≤ l.length ∧ i = .int .i64 k ∧ Hid (RW 29 wr W.heap.size #[.int .i64 24, .int .i64 m, .string t, .slice A n c]) ∧ Hid (Below W.heap.size W wr) ∧ Hid (∀ (j : Nat) (x : ByteArray), j < k → l[j]? = some x → (x.toList == t.toList) = false)) (fun i _ => l.length - (intOf i).toNat)
    case atStart => exact ⟨0, Nat.zero_le _, rfl, Lib.hid (HC.out _ rfl).1, Lib.hid (HC.out _ rfl).2.1, Lib.hid (fun j x hj => absurd hj (by omega))⟩
    case round =>
      obtain ⟨k, hk, rfl, HB, HW, HV⟩ := hrel
      have q2 : wr.cell? ⟨W.heap.size, 2, none⟩ = some (.string t) := HB.out.cell 2
      by_cases hlt : k < l.length
      · obtain ⟨x, hx⟩ : ∃ x, l[k]? = some x := ⟨l[k], List.getElem?_eq_getElem hlt⟩
        have hc0 := HCL.out k x hx
        have p0 : wr.cell? ⟨g, k, none⟩ = some (.string x) := by rw [HW.out.cell hg2]; exact hc0
        have HX := Lib.hid hx
        obtain ⟨z, hz⟩ : ∃ z, (x.toList == t.toList) = z := ⟨_, rfl⟩
        have HZ := Lib.hid hz
        have m0 : (0 : Int) ≤ (k : Int) := by omega
        have m1 : (k : Int) < (l.length : Int) := by omega
        clear hcl hc0 hx
        go_wp2_with fail
        have xp := cell_regrown p0
        have xy := cell_regrown q2
        refine wp_region_quiet_below (by kernel_rfl) (by kernel_rfl) ?_
        repeat (first | go_big_quiet_step (fail) | quiet_step (fail))
        refine wpQuiet_nil ?_
        intro w4 hw'
        obtain ⟨⟨dq, osq⟩, hw''⟩ := hw'
        have HB4 : Hid (Below W.heap.size W w4) := by show Below _ _ _; rw [hw'']; exact HW.out.trans ((below_regrown _ dq osq).mono HW.out.size)
        have HBB4 : Hid (RW 29 w4 W.heap.size #[.int .i64 24, .int .i64 m, .string t, .slice A n c]) := by
          show RW _ _ _ _
          rw [hw'']
          exact HB.out.below (below_regrown _ dq osq) HB.out.lt
        clear hw'' xp xy p0 q2 hz
        cases z
        · go_wp2_with fail
          go_roundw
          case rel =>
            refine ⟨k + 1, by omega, by go_num, HBB4, HB4, Lib.hid (fun j u hj hu => ?_)⟩
            by_cases e : j = k
            · subst e
              rw [HX.out, Option.some.injEq] at hu
              subst hu
              exact HZ.out
            · exact HV.out j u (by omega) hu
          case measure => simp [intOf]; omega
        · have HF : Hid (R = l) := by
            show _ = _
            rw [← HR.out]
            have := contains_in HX.out HZ.out
            simp [addName, this]
          go_wp2_with fail
          go_ret
          exact HEND.out _ HB4.out HF.out
      · have hkl : k = l.length := by omega
        subst hkl
        have HRR : Hid (R = l ++ [t]) := by
          show _ = _
          rw [← HR.out]
          have := contains_out (fun j u hu => HV.out j u ((List.getElem?_eq_some_iff.1 hu).1) hu)
          simp [addName, this]
        have HOW : Hid (OwnS wr B (.slice (some ⟨g, 0, none⟩) l.length c1) l) := ownS_keep HO.out HW.out
        go_wp2_with (at_builtin; refine wpList_append_own_at _ rfl _ _ 58 rfl B 9 i0 (.string ⟨#[]⟩) 1 16 Tryd.underlying58 hi0 hz0 hz1 hz2 rfl (by decide) _ _ _ rfl (ownS_keep HOW.out (below_alloc _ _)) ⟨wr.heap.size, 0, none⟩ 1 1 [.string t] rfl rfl (cell_one_new _ _ _) (fun x hx => by simp at hx; subst hx; rfl) (by unfold maxLen; omega) (by omega) (by have := HW.out.size; have := HBB.out; simp; omega) ?_; intro v1 w1 hown1 hgr1 _ hor)
        go_ret
        refine ⟨v1, rfl, ?_, ?_⟩
        · rw [HRR.out]
          have := hown1
          rw [OwnS, List.map_append, List.length_append]
          exact this
        · exact .of_grown (HW.out.trans (Below.mono (below_alloc _ _) HW.out.size)) hgr1 hor
end Go.Proofs.YtjeiiljdhnmofaaDoor
