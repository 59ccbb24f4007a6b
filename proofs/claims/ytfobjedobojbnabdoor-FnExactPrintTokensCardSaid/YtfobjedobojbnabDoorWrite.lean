/- Contract of writeTokens: the text of valid tokens goes into the builder. Conditions: the tables. -/
import Derived.Test.YtfobjedobojbnabDoorSink
import Derived.Test.YtfobjedobojbnabDoorText
import Derived.Test.YtfobjedobojbnabDoorToks
import Derived.Deep.RegionWith
namespace Go.Proofs.YtfobjedobojbnabDoor
open Go Go.RowKit

/-- The blank ahead of token k. -/
def sepT (xs : List Tok) (k : Nat) : Bool := decide (0 < k) && ((xs[k]?.map Tok.b).getD false || (xs[k - 1]?.map Tok.a).getD false)
/-- The text of the first k tokens. -/
def outT (xs : List Tok) : Nat → ByteArray
  | 0 => ⟨#[]⟩
  | k + 1 => outT xs k ++ (if sepT xs k = true then ⟨#[32]⟩ else ⟨#[]⟩) ++ (xs[k]?.map fun (x : Tok) => tokText x.k x.n x.t).getD ⟨#[]⟩

theorem out_next {xs : List Tok} {k : Nat} {x : Tok} (h : xs[k]? = some x) : outT xs (k + 1) = outT xs k ++ (if sepT xs k = true then ⟨#[32]⟩ else ⟨#[]⟩) ++ tokText x.k x.n x.t := by
  rw [outT, h]
  rfl
theorem outT_size {xs : List Tok} : ∀ k, (∀ (j : Nat) (x : Tok), j < k → xs[j]? = some x → (tokText x.k x.n x.t).size ≤ 1000) → (outT xs k).size ≤ 1001 * k
  | 0, _ => Nat.le_refl _
  | k + 1, h => by
    have h1 := outT_size k fun j x hj hx => h j x (by omega) hx
    rw [outT, ByteArray.size_append, ByteArray.size_append]
    have h2 : ((if sepT xs k = true then ⟨#[32]⟩ else ⟨#[]⟩ : ByteArray)).size ≤ 1 := by split <;> decide
    have h3 : ((xs[k]?.map fun (x : Tok) => tokText x.k x.n x.t).getD ⟨#[]⟩).size ≤ 1000 := by
      cases hx : xs[k]? with
      | none => decide
      | some x => exact h k x (by omega) hx
    omega
set_option maxHeartbeats 2000000 in
set_option maxRecDepth 100000 in
theorem writeTokens_any (B b n c : Nat) (A : Option Addr) (xs : List Tok) (W : World) (hr : TR W B A n xs) (hb : Lib.IsBuilder 59 5 B b [] W) (hBw : B ≤ W.heap.size) (hn : n ≤ 1048576) (hv : ∀ (j : Nat) (x : Tok), xs[j]? = some x → x.t.size ≤ 1048576 ∧ (tokText x.k x.n x.t).size ≤ 1000)
    (hT : Classes W) (hP : PowTab W) (hg : 0 < B) (hg2 : 2 < B) :
    Calls Tryd.prog 40 #[.iface 57 (.pointer (some ⟨b, 0, none⟩)), .slice A n c] W fun e w' => e = .returned (.tuple #[]) ∧ Lib.IsBuilder 59 5 B b (Lib.strCells (outT xs n)) w' ∧ Below B W w' := by
  have HR := Lib.hid hr
  have HV := Lib.hid hv
  have HB0 := Lib.hid hb
  have HBW := Lib.hid hBw
  have HT := Lib.hid hT
  have HP := Lib.hid hP
  have HG := Lib.hid hg
  have HG2 := Lib.hid hg2
  clear hr hv hb hBw hT hP hg hg2
  have na := nil_ahead ⟨b, 0, none⟩
  have mw := method_ws ⟨b, 0, none⟩
  go_enter Tryd.func40, Tryd.ntmps40
  go_wp2_with fail
  go_loopw [8] (fun i wr => ∃ k : Nat, k ≤ n ∧ i = .int .i64 k ∧ Hid (Lib.IsBuilder 59 5 B b (Lib.strCells (outT xs k)) wr) ∧ Hid (Below B W wr)) (fun i _ => n - (intOf i).toNat)
  case atStart => exact ⟨0, Nat.zero_le _, rfl, HB0, Below.refl _ _⟩
  case round =>
    obtain ⟨k, hk, rfl, HB, HW⟩ := hrel
    by_cases hlt : k < n
    · have hl : Hid (k < xs.length) := by have := HR.out.1; show _ < _; omega
      obtain ⟨g, rfl, hg, hct⟩ := HR.out.2 (by omega)
      have h1 := hct k _ (List.getElem?_eq_getElem hl.out)
      have HCT := Lib.hid hct
      clear hct
      obtain ⟨p0, p1, p2, p3, p4⟩ := h1.below HW.out hg
      have hxk : xs[k]? = some (xs[k]'hl.out) := List.getElem?_eq_getElem hl.out
      generalize xs[k]'hl.out = x at p0 p1 p2 p3 p4 hxk
      obtain ⟨xk, xn, xt, xb, xa⟩ := x
      dsimp only at p0 p1 p2 p3 p4
      have HXK := Lib.hid hxk
      have b0 : (0 : Int) ≤ (k : Int) := by omega
      have b1 : (k : Int) < (n : Int) := by omega
      clear h1 hxk
      have ML : Hid (xt.size ≤ maxLen) := by show _ ≤ _; have h : xt.size ≤ 1048576 := (HV.out k _ HXK.out).1; unfold maxLen; omega
      have HTS : Hid ((tokText xk xn xt).size ≤ 1000) := (HV.out k _ HXK.out).2
      have HOS : Hid ((outT xs k).size ≤ 1001 * k) := outT_size k fun j x hj hx => (HV.out j x hx).2
      by_cases hk0 : k = 0
      · subst hk0
        go_wp2_with fail
        obtain ⟨w0, hw0⟩ : ∃ w0, wr.alloc (.cells #[.int .i64 xk, .int .i64 xn, .string xt, .bool xb, .bool xa] 44) = w0 := ⟨_, rfl⟩
        have HF : Hid (TB w0 wr.heap.size #[.int .i64 xk, .int .i64 xn, .string xt, .bool xb, .bool xa]) := by show TB _ _ _; rw [← hw0]; exact heap_alloc_new wr _
        obtain ⟨Z, hZ0⟩ : ∃ Z, outT xs 0 = Z := ⟨_, rfl⟩
        have HZ : Hid (Lib.strCells Z ++ Lib.strCells (tokText xk xn xt) = Lib.strCells (outT xs (0 + 1))) := by
          show _ = _
          rw [← hZ0, out_next HXK.out, if_neg (by simp [sepT]), strCells_app, strCells_app]
          simp [Lib.strCells]
        have HBx : Hid (Lib.IsBuilder 59 5 B b (Lib.strCells Z) w0) := by show Lib.IsBuilder _ _ _ _ _ _; rw [← hw0, ← hZ0]; exact builder_keep HB.out ((Below.refl _ _).alloc (Nat.le_refl _) _)
        have HWx : Hid (Below B W w0) := by show Below _ _ _; rw [← hw0]; exact HW.out.alloc (Nat.le_trans HBW.out HW.out.size) _
        have HLEN : Hid ((Lib.strCells Z).length + (tokText xk xn xt).size ≤ 140737488355328) := by show _ ≤ _; have := HOS.out; have := HTS.out; rw [Lib.strCells_length, ← hZ0]; omega
        rw [hw0]
        clear hw0 hZ0 p0 p1 p2 p3 p4
        have q0 := HF.out.cell 0
        have q1 := HF.out.cell 1
        have q2 := HF.out.cell 2
        have q3 := HF.out.cell 3
        have q4 := HF.out.cell 4
        have HWd : Hid (Below B W w0.drew) := ⟨HWx.out.os, HWx.out.tape, HWx.out.output, HWx.out.size, HWx.out.block⟩
        go_region_with (first
          | (go_at_call 70; refine (impl_TokenText_any _ _ _ _ _ _ ML.out (HT.out.below HWd.out HG.out) (var?_below HWd.out gPow HG2.out HP.out) (Nat.lt_of_lt_of_le HG2.out (Nat.le_trans HBW.out HWd.out.size))).mono ?_; rintro e w1 ⟨rfl, hb⟩; have HB1 : Hid (Lib.IsBuilder 59 5 B b (Lib.strCells Z) w1) := builder_keep (w := w0) HBx.out ⟨hb.os, hb.tape, hb.output, hb.size, hb.block⟩; have HW1 : Hid (Below B W w1) := HWx.out.trans (Below.mono (B := w0.heap.size) ⟨hb.os, hb.tape, hb.output, hb.size, hb.block⟩ (Nat.le_trans HBW.out HWx.out.size)); clear hb)
          | (go_at_call 153; refine (WriteString_any B b (Lib.strCells Z) _ _ HB1.out HLEN.out (Nat.le_trans HBW.out HW1.out.size)).mono ?_; rintro e w2 ⟨rfl, hB2, hb2⟩; have HB2 := Lib.hid hB2; have HW2 : Hid (Below B W w2) := HW1.out.trans hb2; clear hB2 hb2))
        all_goals
          go_wp2_with fail
          go_roundw
        all_goals first
          | exact ⟨0 + 1, by omega, by go_num, Lib.hid (by rw [← HZ.out]; exact .inr HB2.out), HW2.out⟩
          | (simp [intOf]; omega)
      · obtain ⟨m, hm⟩ : ∃ m, k = m + 1 := ⟨k - 1, by omega⟩
        have hxm : xs[m]? = some (xs[m]'(by have := hl.out; omega)) := List.getElem?_eq_getElem _
        generalize xs[m]'(by have := hl.out; omega) = y at hxm
        have r4 := ((HCT.out m y hxm).below HW.out hg).2.2.2.2
        have HSV : Hid (sepT xs k = (xb || y.a)) := by
          show _ = _
          unfold sepT
          rw [HXK.out, show k - 1 = m by omega, hxm, decide_eq_true (by omega)]
          rfl
        generalize y.a = ya at r4 HSV
        have i9 : (k : Int) - 1 = (m : Int) := by omega
        have i10 : (0 : Int) ≤ (m : Int) := by omega
        have i11 : (m : Int) < (n : Int) := by omega
        have i12 : decide ((k : Int) > 0) = true := decide_eq_true (by omega)
        have i13 : decide (0 < (k : Int)) = true := decide_eq_true (by omega)
        have i14 : IntKind.i64.wrap (m : Int) = (m : Int) := IntWalk.i64_in _ (by omega)
        have hgl : g < wr.heap.size := Nat.lt_of_lt_of_le hg (Nat.le_trans HBW.out HW.out.size)
        have r5 : ∀ o, (wr.alloc o).cell? ⟨g, m * 5 + 4, none⟩ = some (.bool ya) := fun o => (World.cell?_alloc_lt wr o ⟨g, m * 5 + 4, none⟩ hgl).trans r4
        clear hm hk0 hxm
        cases xb
        · cases ya
          · have HNS : Hid (¬ sepT xs k = true) := by show ¬ _; rw [HSV.out]; decide
            go_wp2_with fail
            obtain ⟨w0, hw0⟩ : ∃ w0, wr.alloc (.cells #[.int .i64 xk, .int .i64 xn, .string xt, .bool false, .bool xa] 44) = w0 := ⟨_, rfl⟩
            have HF : Hid (TB w0 wr.heap.size #[.int .i64 xk, .int .i64 xn, .string xt, .bool false, .bool xa]) := by show TB _ _ _; rw [← hw0]; exact heap_alloc_new wr _
            obtain ⟨Z, hZ0⟩ : ∃ Z, outT xs k = Z := ⟨_, rfl⟩
            have HZ : Hid (Lib.strCells Z ++ Lib.strCells (tokText xk xn xt) = Lib.strCells (outT xs (k + 1))) := by
              show _ = _
              rw [← hZ0, out_next HXK.out, if_neg (HNS.out), strCells_app, strCells_app]
              simp [Lib.strCells]
            have HBx : Hid (Lib.IsBuilder 59 5 B b (Lib.strCells Z) w0) := by show Lib.IsBuilder _ _ _ _ _ _; rw [← hw0, ← hZ0]; exact builder_keep HB.out ((Below.refl _ _).alloc (Nat.le_refl _) _)
            have HWx : Hid (Below B W w0) := by show Below _ _ _; rw [← hw0]; exact HW.out.alloc (Nat.le_trans HBW.out HW.out.size) _
            have HLEN : Hid ((Lib.strCells Z).length + (tokText xk xn xt).size ≤ 140737488355328) := by show _ ≤ _; have := HOS.out; have := HTS.out; rw [Lib.strCells_length, ← hZ0]; omega
            rw [hw0]
            clear hw0 hZ0 p0 p1 p2 p3 p4 r4 r5 i9 i10 i11 i12 i13 i14
            have q0 := HF.out.cell 0
            have q1 := HF.out.cell 1
            have q2 := HF.out.cell 2
            have q3 := HF.out.cell 3
            have q4 := HF.out.cell 4
            have HWd : Hid (Below B W w0.drew) := ⟨HWx.out.os, HWx.out.tape, HWx.out.output, HWx.out.size, HWx.out.block⟩
            go_region_with (first
              | (go_at_call 70; refine (impl_TokenText_any _ _ _ _ _ _ ML.out (HT.out.below HWd.out HG.out) (var?_below HWd.out gPow HG2.out HP.out) (Nat.lt_of_lt_of_le HG2.out (Nat.le_trans HBW.out HWd.out.size))).mono ?_; rintro e w1 ⟨rfl, hb⟩; have HB1 : Hid (Lib.IsBuilder 59 5 B b (Lib.strCells Z) w1) := builder_keep (w := w0) HBx.out ⟨hb.os, hb.tape, hb.output, hb.size, hb.block⟩; have HW1 : Hid (Below B W w1) := HWx.out.trans (Below.mono (B := w0.heap.size) ⟨hb.os, hb.tape, hb.output, hb.size, hb.block⟩ (Nat.le_trans HBW.out HWx.out.size)); clear hb)
              | (go_at_call 153; refine (WriteString_any B b (Lib.strCells Z) _ _ HB1.out HLEN.out (Nat.le_trans HBW.out HW1.out.size)).mono ?_; rintro e w2 ⟨rfl, hB2, hb2⟩; have HB2 := Lib.hid hB2; have HW2 : Hid (Below B W w2) := HW1.out.trans hb2; clear hB2 hb2))
            all_goals
              go_wp2_with fail
              go_roundw
            all_goals first
              | exact ⟨k + 1, by omega, by go_num, Lib.hid (by rw [← HZ.out]; exact .inr HB2.out), HW2.out⟩
              | (simp [intOf]; omega)
          · have HSEP : Hid (sepT xs k = true) := HSV.out
            obtain ⟨v, hv0⟩ := buildV_of HB.out
            have HBV := Lib.hid (hv0.alloc (.cells #[.int .i64 xk, .int .i64 xn, .string xt, .bool false, .bool xa] 44))
            have HVO : Hid (v.ownBlock ≠ some wr.heap.size) := fun e => by have := (hv0.2.2.1.lt _ e).2; omega
            have HBL : Hid (wr.heap.size ≠ b) := Nat.ne_of_gt hv0.lt
            have HL0 : Hid ((Lib.strCells (outT xs k)).length + (⟨#[32]⟩ : ByteArray).size ≤ 140737488355328) := by show _ ≤ _; have := HOS.out; have h1 : (⟨#[32]⟩ : ByteArray).size = 1 := rfl; rw [Lib.strCells_length]; omega
            obtain ⟨Z, hZ0⟩ : ∃ Z, outT xs k ++ ⟨#[32]⟩ = Z := ⟨_, rfl⟩
            have HZ : Hid (Lib.strCells Z ++ Lib.strCells (tokText xk xn xt) = Lib.strCells (outT xs (k + 1))) := by
              show _ = _
              rw [← hZ0, out_next HXK.out, if_pos HSEP.out, strCells_app, strCells_app, strCells_app]
            have HZ0 := Lib.hid hZ0
            have HLEN : Hid ((Lib.strCells Z).length + (tokText xk xn xt).size ≤ 140737488355328) := by show _ ≤ _; have := HOS.out; have := HTS.out; have h1 : (⟨#[32]⟩ : ByteArray).size = 1 := rfl; rw [Lib.strCells_length, ← hZ0, ByteArray.size_append]; omega
            clear hv0 hZ0
            go_wp2_with (go_at_call 153; refine (WriteString_v B b v (Lib.strCells (outT xs k)) ⟨#[32]⟩ _ HBV.out HL0.out (Nat.le_trans HBW.out (Nat.le_trans HW.out.size (by simp)))).mono ?_; rintro e w0 ⟨rfl, hp⟩; have HF : Hid (TB w0 wr.heap.size #[.int .i64 xk, .int .i64 xn, .string xt, .bool false, .bool xa]) := Lib.hid ((hp.out.2.2 wr.heap.size (by simp) HBL.out HVO.out).trans (heap_alloc_new wr _)); have HBx : Hid (Lib.IsBuilder 59 5 B b (Lib.strCells Z) w0) := Lib.hid (by obtain ⟨v', h'⟩ := hp.out.1; rw [← HZ0.out, strCells_app]; exact h'.is); have HWx : Hid (Below B W w0) := (HW.out.alloc (Nat.le_trans HBW.out HW.out.size) _).trans hp.out.2.1; clear hp)
            clear p0 p1 p2 p3 p4 r4 r5 i9 i10 i11 i12 i13 i14
            have q0 := HF.out.cell 0
            have q1 := HF.out.cell 1
            have q2 := HF.out.cell 2
            have q3 := HF.out.cell 3
            have q4 := HF.out.cell 4
            have HWd : Hid (Below B W w0.drew) := ⟨HWx.out.os, HWx.out.tape, HWx.out.output, HWx.out.size, HWx.out.block⟩
            go_region_with (first
              | (go_at_call 70; refine (impl_TokenText_any _ _ _ _ _ _ ML.out (HT.out.below HWd.out HG.out) (var?_below HWd.out gPow HG2.out HP.out) (Nat.lt_of_lt_of_le HG2.out (Nat.le_trans HBW.out HWd.out.size))).mono ?_; rintro e w1 ⟨rfl, hb⟩; have HB1 : Hid (Lib.IsBuilder 59 5 B b (Lib.strCells Z) w1) := builder_keep (w := w0) HBx.out ⟨hb.os, hb.tape, hb.output, hb.size, hb.block⟩; have HW1 : Hid (Below B W w1) := HWx.out.trans (Below.mono (B := w0.heap.size) ⟨hb.os, hb.tape, hb.output, hb.size, hb.block⟩ (Nat.le_trans HBW.out HWx.out.size)); clear hb)
              | (go_at_call 153; refine (WriteString_any B b (Lib.strCells Z) _ _ HB1.out HLEN.out (Nat.le_trans HBW.out HW1.out.size)).mono ?_; rintro e w2 ⟨rfl, hB2, hb2⟩; have HB2 := Lib.hid hB2; have HW2 : Hid (Below B W w2) := HW1.out.trans hb2; clear hB2 hb2))
            all_goals
              go_wp2_with fail
              go_roundw
            all_goals first
              | exact ⟨k + 1, by omega, by go_num, Lib.hid (by rw [← HZ.out]; exact .inr HB2.out), HW2.out⟩
              | (simp [intOf]; omega)
        · have HSEP : Hid (sepT xs k = true) := by show _ = _; rw [HSV.out]; rfl
          obtain ⟨v, hv0⟩ := buildV_of HB.out
          have HBV := Lib.hid (hv0.alloc (.cells #[.int .i64 xk, .int .i64 xn, .string xt, .bool true, .bool xa] 44))
          have HVO : Hid (v.ownBlock ≠ some wr.heap.size) := fun e => by have := (hv0.2.2.1.lt _ e).2; omega
          have HBL : Hid (wr.heap.size ≠ b) := Nat.ne_of_gt hv0.lt
          have HL0 : Hid ((Lib.strCells (outT xs k)).length + (⟨#[32]⟩ : ByteArray).size ≤ 140737488355328) := by show _ ≤ _; have := HOS.out; have h1 : (⟨#[32]⟩ : ByteArray).size = 1 := rfl; rw [Lib.strCells_length]; omega
          obtain ⟨Z, hZ0⟩ : ∃ Z, outT xs k ++ ⟨#[32]⟩ = Z := ⟨_, rfl⟩
          have HZ : Hid (Lib.strCells Z ++ Lib.strCells (tokText xk xn xt) = Lib.strCells (outT xs (k + 1))) := by
            show _ = _
            rw [← hZ0, out_next HXK.out, if_pos HSEP.out, strCells_app, strCells_app, strCells_app]
          have HZ0 := Lib.hid hZ0
          have HLEN : Hid ((Lib.strCells Z).length + (tokText xk xn xt).size ≤ 140737488355328) := by show _ ≤ _; have := HOS.out; have := HTS.out; have h1 : (⟨#[32]⟩ : ByteArray).size = 1 := rfl; rw [Lib.strCells_length, ← hZ0, ByteArray.size_append]; omega
          clear hv0 hZ0
          go_wp2_with (go_at_call 153; refine (WriteString_v B b v (Lib.strCells (outT xs k)) ⟨#[32]⟩ _ HBV.out HL0.out (Nat.le_trans HBW.out (Nat.le_trans HW.out.size (by simp)))).mono ?_; rintro e w0 ⟨rfl, hp⟩; have HF : Hid (TB w0 wr.heap.size #[.int .i64 xk, .int .i64 xn, .string xt, .bool true, .bool xa]) := Lib.hid ((hp.out.2.2 wr.heap.size (by simp) HBL.out HVO.out).trans (heap_alloc_new wr _)); have HBx : Hid (Lib.IsBuilder 59 5 B b (Lib.strCells Z) w0) := Lib.hid (by obtain ⟨v', h'⟩ := hp.out.1; rw [← HZ0.out, strCells_app]; exact h'.is); have HWx : Hid (Below B W w0) := (HW.out.alloc (Nat.le_trans HBW.out HW.out.size) _).trans hp.out.2.1; clear hp)
          clear p0 p1 p2 p3 p4 r4 r5 i9 i10 i11 i12 i13 i14
          have q0 := HF.out.cell 0
          have q1 := HF.out.cell 1
          have q2 := HF.out.cell 2
          have q3 := HF.out.cell 3
          have q4 := HF.out.cell 4
          have HWd : Hid (Below B W w0.drew) := ⟨HWx.out.os, HWx.out.tape, HWx.out.output, HWx.out.size, HWx.out.block⟩
          go_region_with (first
            | (go_at_call 70; refine (impl_TokenText_any _ _ _ _ _ _ ML.out (HT.out.below HWd.out HG.out) (var?_below HWd.out gPow HG2.out HP.out) (Nat.lt_of_lt_of_le HG2.out (Nat.le_trans HBW.out HWd.out.size))).mono ?_; rintro e w1 ⟨rfl, hb⟩; have HB1 : Hid (Lib.IsBuilder 59 5 B b (Lib.strCells Z) w1) := builder_keep (w := w0) HBx.out ⟨hb.os, hb.tape, hb.output, hb.size, hb.block⟩; have HW1 : Hid (Below B W w1) := HWx.out.trans (Below.mono (B := w0.heap.size) ⟨hb.os, hb.tape, hb.output, hb.size, hb.block⟩ (Nat.le_trans HBW.out HWx.out.size)); clear hb)
            | (go_at_call 153; refine (WriteString_any B b (Lib.strCells Z) _ _ HB1.out HLEN.out (Nat.le_trans HBW.out HW1.out.size)).mono ?_; rintro e w2 ⟨rfl, hB2, hb2⟩; have HB2 := Lib.hid hB2; have HW2 : Hid (Below B W w2) := HW1.out.trans hb2; clear hB2 hb2))
          all_goals
            go_wp2_with fail
            go_roundw
          all_goals first
            | exact ⟨k + 1, by omega, by go_num, Lib.hid (by rw [← HZ.out]; exact .inr HB2.out), HW2.out⟩
            | (simp [intOf]; omega)
    · have HN : Hid (k = n) := by show _ = _; omega
      go_wp2_with fail
      go_end0
      exact ⟨rfl, HN.out ▸ HB.out, HW.out⟩
end Go.Proofs.YtfobjedobojbnabDoor
