/- Contracts: writeLines, JoinLines of the program. No condition. -/
import Derived.Test.YtfobjedobojbnabDoorJoinPlain
import Derived.Test.YtfobjedobojbnabDoorSink
import Derived.Test.YtfobjedobojbnabDoorMark0
namespace Go.Proofs.YtfobjedobojbnabDoor
open Go Go.RowKit

set_option maxHeartbeats 2000000 in
set_option maxRecDepth 100000 in
theorem writeLines_any (B b n c : Nat) (A : Option Addr) (xs : List Lin) (W : World) (hr : LR W B A n xs) (hb : Lib.IsBuilder 59 5 B b [] W) (hBw : B ≤ W.heap.size) (hn : n + sumL xs n ≤ 1048576) :
    Calls Tryd.prog 45 #[.iface 57 (.pointer (some ⟨b, 0, none⟩)), .slice A n c] W fun e w' => e = .returned (.tuple #[]) ∧ Lib.IsBuilder 59 5 B b (Lib.strCells (joinT xs n)) w' ∧ Below B W w' := by
  have HR := Lib.hid hr
  have HB0 := Lib.hid hb
  have HBW := Lib.hid hBw
  have HN := Lib.hid hn
  have h1 : (n : Int) ≤ 1048576 := by omega
  clear hr hb hBw hn
  have na := nil_ahead ⟨b, 0, none⟩
  have mw := method_ws ⟨b, 0, none⟩
  go_enter Tryd.func45, Tryd.ntmps45
  go_wp2_with fail
  go_loopw [8] (fun i wr => ∃ k : Nat, k ≤ n ∧ i = .int .i64 k ∧ Hid (Lib.IsBuilder 59 5 B b (Lib.strCells (joinT xs k)) wr) ∧ Hid (Below B W wr)) (fun i _ => n - (intOf i).toNat)
  case atStart => exact ⟨0, Nat.zero_le _, rfl, HB0, Below.refl _ _⟩
  case round =>
    obtain ⟨k, hk, rfl, HB, HW⟩ := hrel
    by_cases hlt : k < n
    · have hl : Hid (k < xs.length) := by have := HR.out.1; show _ < _; omega
      obtain ⟨g, rfl, hg, hc⟩ := HR.out.at_ hlt hl.out
      obtain ⟨q0, q1⟩ := hc.below HW.out hg
      have hx : xs[k]? = some (xs[k]'hl.out) := List.getElem?_eq_getElem hl.out
      generalize xs[k]'hl.out = x at q0 q1 hx
      obtain ⟨xn, xt⟩ := x
      dsimp only at q0 q1
      have hm := sumL_mono (xs := xs) (j := k + 1) (k := n) (by omega)
      rw [sumL_next hx] at hm
      dsimp only at hm
      have hj := joinT_size xs k
      have L1 : Hid ((Lib.strCells (joinT xs k)).length + xt.size ≤ 140737488355328) := by show _ ≤ _; rw [Lib.strCells_length]; have := HN.out; omega
      have L2 : Hid ((Lib.strCells (joinT xs k) ++ Lib.strCells xt).length + (⟨#[10]⟩ : ByteArray).size ≤ 140737488355328) := by
        show _ ≤ _
        have e : (⟨#[10]⟩ : ByteArray).size = 1 := rfl
        rw [List.length_append, Lib.strCells_length, Lib.strCells_length, e]
        have := HN.out
        omega
      have HE : Hid (Lib.strCells (joinT xs k) ++ Lib.strCells xt ++ Lib.strCells ⟨#[10]⟩ = Lib.strCells (joinT xs (k + 1))) := by show _ = _; rw [joinT_next hx, strCells_app, strCells_app, List.append_assoc]
      clear hx hm hj hc hg
      have b0 : (0 : Int) ≤ (k : Int) := by omega
      have b1 : (k : Int) < (n : Int) := by omega
      have HA : Hid (∀ o, Lib.IsBuilder 59 5 B b (Lib.strCells (joinT xs k)) (wr.alloc o)) := fun o => builder_keep HB.out ((Below.refl _ _).alloc (Nat.le_refl _) o)
      have HWA : Hid (∀ o, Below B W (wr.alloc o)) := fun o => HW.out.alloc (Nat.le_trans HBW.out HW.out.size) o
      go_wp2_with (go_at_call 153; refine (WriteString_any B b _ xt _ (HA.out _) L1.out (Nat.le_trans HBW.out (HWA.out _).size)).mono ?_; rintro e w1 ⟨rfl, hB1, hb1⟩; have HB1 := Lib.hid hB1; have HW1 : Hid (Below B W w1) := (HWA.out _).trans hb1; clear hB1 hb1 HA L1)
      go_wp2_with (go_at_call 153; refine (WriteString_any B b _ ⟨#[10]⟩ _ (.inr HB1.out) L2.out (Nat.le_trans HBW.out HW1.out.size)).mono ?_; rintro e w2 ⟨rfl, hB2, hb2⟩; have HB2 := Lib.hid hB2; have HW2 : Hid (Below B W w2) := HW1.out.trans hb2; clear hB2 hb2)
      go_roundw
      case rel => exact ⟨k + 1, by omega, by go_num, Lib.hid (by rw [← HE.out]; exact .inr HB2.out), HW2⟩
      case measure => simp [intOf]; omega
    · have hkn : k = n := by omega
      subst hkn
      go_wp2_with fail
      go_end0
      exact ⟨rfl, HB.out, HW.out⟩

set_option maxHeartbeats 1000000 in
set_option maxRecDepth 100000 in
theorem impl_JoinLines_any (A : Option Addr) (n c : Nat) (xs : List Lin) (W : World) (hr : LR W W.heap.size A n xs) (hn : n + sumL xs n ≤ 1048576) :
    Calls Tryd.prog 19 #[.slice A n c] W fun e w' => e = .returned (.string (joinT xs n)) ∧ Below W.heap.size W w' := by
  have HR := Lib.hid hr
  have HN := Lib.hid hn
  clear hr hn
  have HF : Hid (Lib.IsBuilder 59 5 W.heap.size W.heap.size [] (W.alloc (.cells #[.pointer none, .slice none 0 0] 59))) := Lib.hid (Lib.fresh_isBuilder _ _ W)
  have HB0 : Hid (Below W.heap.size W (W.alloc (.cells #[.pointer none, .slice none 0 0] 59))) := (Below.refl _ _).alloc (Nat.le_refl _) _
  have HW := Lib.hid (writeLines_any W.heap.size W.heap.size n c A xs _ (HR.out.below HB0.out) HF.out HB0.out.size HN.out)
  go_enter Tryd.func19, Tryd.ntmps19
  go_wp2_with (first
    | (go_at_call 45; refine HW.out.mono ?_; rintro e w1 ⟨rfl, hB1, hb1⟩; have HB1 := Lib.hid hB1; have HW1 : Hid (Below W.heap.size W w1) := HB0.out.trans hb1; clear hB1 hb1)
    | (go_at_call 41; refine (String_str _ _ (joinT xs n) _ HB1.out HW1.out.size).mono ?_; rintro e w2 ⟨rfl, hb⟩; have HW2 := Lib.hid (HW1.out.trans hb); clear hb))
  go_ret
  exact ⟨rfl, HW2.out⟩
end Go.Proofs.YtfobjedobojbnabDoor
