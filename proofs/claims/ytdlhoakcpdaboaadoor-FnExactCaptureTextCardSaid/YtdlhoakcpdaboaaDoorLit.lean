/- Contract: l11Literal of the model. Condition: a bound on the string. -/
import Derived.Test.YtdlhoakcpdaboaaDoorDbl
import Derived.Test.YtdlhoakcpdaboaaDoorConvB
import Derived.Test.YtdlhoakcpdaboaaDoorMark0
import Derived.Test.YtdlhoakcpdaboaaDoorRw
import Derived.Test.YtdlhoakcpdaboaaDoorOwn1
import Derived.OwnWalk
namespace Go.Proofs.YtdlhoakcpdaboaaDoor
open Go Go.RowKit

/-- Bytes as cells. -/
def bcells (y : ByteArray) : List Value := y.data.toList.map fun b => .int .u8 (b.toNat : Int)
theorem bcells_len (y : ByteArray) : (bcells y).length = y.size := by unfold bcells; rw [List.length_map, Lib.size_eq]
theorem bcells_append (a b : ByteArray) : bcells (a ++ b) = bcells a ++ bcells b := by
  unfold bcells
  rw [← List.map_append]
  congr 1
theorem bcells_at (y : ByteArray) (j : Nat) (h : j < y.size) : (bcells y)[j]? = some (.int .u8 (PlainAid.bt y j)) := by
  have hl : j < y.data.toList.length := by rw [← Lib.size_eq]; exact h
  unfold bcells
  rw [List.getElem?_map, List.getElem?_eq_getElem hl, bt_data y j hl]
  rfl
/-- A row of bytes of one's own. -/
abbrev OwnB (w : World) (B : Nat) (v : Value) (y : ByteArray) : Prop := w.ownsRow B 5 1 v y.size (bcells y)
theorem byteInfoL : (Tryd.prog.info? 5).map (fun i => (i.zero, i.size, i.bytes)) = some (some (Value.int .u8 0), 1, 1) := by kernel_rfl
theorem conv_ownB {w : World} {B : Nat} {v : Value} {y : ByteArray} (h : OwnB w B v y) : (convert 32 9 v).run Tryd.prog w = .ok (.string y) w := by
  rcases h.2 with ⟨rfl, h0⟩ | ⟨g, cap, cur, rfl, hg, hh, hnc, hc, hcs, ht⟩
  · rw [run_convert_bytes_string (P := Tryd.prog) w 32 9 5 none 0 0 Tryd.underlying32 Tryd.underlying5 Tryd.underlying9]
    have : y = ⟨#[]⟩ := by
      apply WideShapes.bytes_inj
      rw [Lib.size_eq] at h0
      rw [List.eq_nil_of_length_eq_zero h0]
    rw [this]
    rfl
  · refine conv_bs w g y.size cap y rfl fun j hj => ?_
    have h1 := congrArg (·[j]?) ht
    simp only [List.getElem?_take, Nat.mul_one, if_pos hj, bcells_at y j hj, Array.getElem?_toList] at h1
    simp [World.cell?, hh, h1]
theorem ownB_snoc {w : World} {B n : Nat} {v : Value} {y : ByteArray} {x : Int} (z : ByteArray) (h : w.ownsRow B 5 1 v (n + 1) (bcells y ++ [.int .u8 x])) (hn : y.size = n) (hz : bcells z = [.int .u8 x]) : OwnB w B v (y ++ z) := by
  have h1 : z.size = 1 := by rw [← bcells_len, hz]; rfl
  unfold OwnB
  rw [bcells_append, hz, ByteArray.size_append, h1, hn]
  exact h
theorem bcells_part (s : ByteArray) (k : Nat) (h : k < s.size) : bcells (s.extract k (k + 1)) = [.int .u8 (PlainAid.bt s k)] := by
  rw [part_toList s k h]
  have := PlainAid.get_bt s k h
  show [Value.int .u8 ((s[k]).toNat : Int)] = _
  rw [this]
theorem own_geB {w : World} {base size n : Nat} {e : TypeId} {v : Value} {xs : List Value} (h : w.ownsRow base e size v n xs) : ∀ k, v.ownBlock = some k → base ≤ k := by
  intro k hk
  rcases h.2 with ⟨rfl, _⟩ | ⟨g, cap, cur, rfl, hg, _⟩
  · cases hk
  · cases hk; exact hg
theorem lit_grow {W wr w1 : World} {v : Value} {y : ByteArray} {o : Obj} (h : Below W.heap.size W wr) (hO : OwnB wr W.heap.size v y) (hg : (wr.alloc o).grownBy w1 v.ownBlock) : Below W.heap.size W w1 :=
  (h.alloc h.size _).grown hg (by have := h.size; simp; omega) (own_geB hO)
theorem ownB_n {w : World} {B n : Nat} {v : Value} {y : ByteArray} (h : OwnB w B v y) (hn : y.size = n) : w.ownsRow B 5 1 v n (bcells y) := by
  subst hn
  exact h

set_option maxHeartbeats 2000000 in
set_option maxRecDepth 100000 in
theorem l11Literal_any (s : ByteArray) (W : World) (hs : s.size ≤ 1048576) :
    Calls Tryd.prog 9 #[.string s] W fun e w' => e = .returned (.string (litE s)) ∧ Below W.heap.size W w' := by
  obtain ⟨i0, hi0, hz0, hz1, hz2⟩ := info_parts byteInfoL
  have HI := Lib.hid (And.intro hi0 (And.intro hz0 (And.intro hz1 hz2)))
  clear hi0 hz0 hz1 hz2
  have hb := PlainAid.get_bt s
  have b1 : (s.size : Int) ≤ 1048576 := by omega
  go_enter Tryd.func9, Tryd.ntmps9
  go_wp2_with fail
  go_loopw [3, 4] (fun v q wr => ∃ (k : Nat) (y : ByteArray), k ≤ s.size ∧ q = .int .i64 k ∧ y.size ≤ 2 * k + 1 ∧ Hid (OwnB wr W.heap.size v y) ∧ Hid (y = ⟨#[34]⟩ ++ dblK s k) ∧ Hid (Below W.heap.size W wr)) (fun _ q _ => s.size - (intOf q).toNat)
  case atStart =>
    refine ⟨0, ⟨#[34]⟩, Nat.zero_le _, rfl, by decide, World.ownsRow_lit W #[.int .u8 34] 1 (Nat.le_refl _) (by decide) rfl, ?_, below_alloc _ _⟩
    show _ = _
    rw [dblK_zero]
    rfl
  case round =>
    obtain ⟨k, y, hk, rfl, hy, HO, HY, HW⟩ := hrel
    have HWS := Lib.hid HW.out.size
    obtain ⟨n, hn⟩ : ∃ n, y.size = n := ⟨_, rfl⟩
    have hn2 : n ≤ 2097153 := by omega
    have hn3 : n ≤ 2 * k + 1 := by omega
    have HN := Lib.hid hn
    have HOn := Lib.hid (ownB_n HO.out HN.out)
    clear hn hy
    by_cases hlt : k < s.size
    · have HD := Lib.hid (dblK_succ s k hlt)
      have HP := Lib.hid (bcells_part s k hlt)
      have HPT := Lib.hid (part_toList s k hlt)
      have HN3 := Lib.hid hn3
      have i2 : (0 : Int) ≤ (k : Int) := by omega
      clear hn3
      by_cases h34 : PlainAid.bt s k = 34
      · have d0 : (PlainAid.bt s k == 34) = true := by simpa using h34
        have H34 := Lib.hid h34
        clear h34
        have tk1 : True := trivial
        go_wp2_with (first
          | (at_builtin; have tk := tk1; refine wpList_append_own _ rfl _ _ 32 rfl W.heap.size 5 i0 (.int .u8 0) 1 1 Tryd.underlying32 HI.out.1 HI.out.2.1 HI.out.2.2.1 HI.out.2.2.2 rfl (by decide) _ _ _ rfl (HOn.out.alloc _) ⟨wr.heap.size, 0, none⟩ 1 1 [.int .u8 (PlainAid.bt s k)] rfl rfl (cell_one_new _ _ _) (fun x hx => by simp at hx; subst hx; rfl) (by unfold maxLen; omega) (by omega) (by have := HWS.out; simp; omega) ?_; intro v1 w1 hown1 hgr1 _; have HO1 := Lib.hid hown1; have HB1 := Lib.hid (lit_grow HW.out HO.out hgr1); have H1S := Lib.hid HB1.out.size; clear hown1 hgr1 tk tk1)
          | (at_builtin; refine wpList_append_own _ rfl _ _ 32 rfl W.heap.size 5 i0 (.int .u8 0) 1 1 Tryd.underlying32 HI.out.1 HI.out.2.1 HI.out.2.2.1 HI.out.2.2.2 rfl (by decide) _ _ _ rfl (HO1.out.alloc _) ⟨w1.heap.size, 0, none⟩ 1 1 [.int .u8 (34)] rfl rfl (cell_one_new _ _ _) (fun x hx => by simp at hx; subst hx; rfl) (by unfold maxLen; omega) (by omega) (by have := H1S.out; simp; omega) ?_; intro v2 w2 hown2 hgr2 _; have HO2 := Lib.hid hown2; have HB2 := Lib.hid ((HB1.out.alloc HB1.out.size _).grown hgr2 (by have := HB1.out.size; simp; omega) (own_geB HO1.out)); clear hown2 hgr2))
        go_roundw
        case rel =>
          refine ⟨k + 1, y ++ ⟨#[34]⟩ ++ s.extract k (k + 1), by omega, by go_num, ?_, ?_, ?_, HB2⟩
          · rw [ByteArray.size_append, ByteArray.size_append, HPT.out, HN.out]
            have := HN3.out
            show n + 1 + 1 ≤ _
            omega
          · have h1 := HO1.out
            have h2 := HO2.out
            rw [H34.out] at h1 h2
            have k1 := ownB_snoc ⟨#[34]⟩ h1 HN.out rfl
            have e1 : n + 1 = (y ++ ⟨#[34]⟩).size := by rw [ByteArray.size_append, HN.out]; rfl
            have k2 : World.ownsRow w2 W.heap.size 5 1 v2 ((y ++ ⟨#[34]⟩).size + 1) (bcells (y ++ ⟨#[34]⟩) ++ [.int .u8 34]) := by
              rw [← e1, bcells_append]
              exact h2
            exact ownB_snoc (s.extract k (k + 1)) k2 rfl (by rw [HP.out, H34.out])
          · show _ = _
            rw [HD.out, if_pos H34.out, HY.out, ByteArray.append_assoc, ByteArray.append_assoc, ByteArray.append_assoc]
        case measure => simp [intOf]; omega
      · have d0 : (PlainAid.bt s k == 34) = false := by simpa using h34
        have H34 := Lib.hid h34
        clear h34
        go_wp2_with (at_builtin; refine wpList_append_own _ rfl _ _ 32 rfl W.heap.size 5 i0 (.int .u8 0) 1 1 Tryd.underlying32 HI.out.1 HI.out.2.1 HI.out.2.2.1 HI.out.2.2.2 rfl (by decide) _ _ _ rfl (HOn.out.alloc _) ⟨wr.heap.size, 0, none⟩ 1 1 [.int .u8 (PlainAid.bt s k)] rfl rfl (cell_one_new _ _ _) (fun x hx => by simp at hx; subst hx; rfl) (by unfold maxLen; omega) (by omega) (by have := HWS.out; simp; omega) ?_; intro v1 w1 hown1 hgr1 _; have HO1 := Lib.hid hown1; have HB1 := Lib.hid (lit_grow HW.out HO.out hgr1); have H1S := Lib.hid HB1.out.size; clear hown1 hgr1)
        go_roundw
        case rel =>
          refine ⟨k + 1, y ++ s.extract k (k + 1), by omega, by go_num, ?_, ownB_snoc (s.extract k (k + 1)) HO1.out HN.out HP.out, ?_, HB1⟩
          · rw [ByteArray.size_append, HPT.out, HN.out]
            have := HN3.out
            show n + 1 ≤ _
            omega
          · show _ = _
            rw [HD.out, if_neg H34.out, HY.out, ByteArray.append_assoc]
        case measure => simp [intOf]; omega
    · have HE : Hid (y ++ ⟨#[34]⟩ = litE s) := by
        show _ = _
        rw [HY.out, dblK_all (by omega)]
        rfl
      go_wp2_with (at_builtin; refine wpList_append_own _ rfl _ _ 32 rfl W.heap.size 5 i0 (.int .u8 0) 1 1 Tryd.underlying32 HI.out.1 HI.out.2.1 HI.out.2.2.1 HI.out.2.2.2 rfl (by decide) _ _ _ rfl (HOn.out.alloc _) ⟨wr.heap.size, 0, none⟩ 1 1 [.int .u8 (34)] rfl rfl (cell_one_new _ _ _) (fun x hx => by simp at hx; subst hx; rfl) (by unfold maxLen; omega) (by omega) (by have := HWS.out; simp; omega) ?_; intro v1 w1 hown1 hgr1 _; have HO1 := Lib.hid hown1; have HB1 := Lib.hid (lit_grow HW.out HO.out hgr1); have hcv := conv_ownB (ownB_snoc ⟨#[34]⟩ hown1 HN.out rfl); clear hown1 hgr1)
      go_ret
      exact ⟨str_ret HE.out, HB1.out⟩
end Go.Proofs.YtdlhoakcpdaboaaDoor
