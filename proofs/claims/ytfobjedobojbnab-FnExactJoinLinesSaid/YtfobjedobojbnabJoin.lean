/- Contracts: JoinLines of the model and of the program. No condition. -/
import Derived.Test.YtfobjedobojbnabLnsIn
import Derived.Test.YtfobjedobojbnabSink
import Derived.Test.YtfobjedobojbnabMark0
namespace Go.Proofs.Ytfobjedobojbnab
open Go Go.RowKit

/-- The text of the first k lines, each with its end. -/
def joinT (xs : List Lin) : Nat → ByteArray
  | 0 => ⟨#[]⟩
  | k + 1 => joinT xs k ++ (((xs[k]?.map fun (x : Lin) => x.t).getD ⟨#[]⟩) ++ ⟨#[10]⟩)
theorem joinT_next {xs : List Lin} {k : Nat} {x : Lin} (h : xs[k]? = some x) : joinT xs (k + 1) = joinT xs k ++ (x.t ++ ⟨#[10]⟩) := by
  rw [joinT, h]
  rfl
theorem joinT_size (xs : List Lin) : ∀ k, (joinT xs k).size = k + sumL xs k
  | 0 => rfl
  | k + 1 => by
    have e : (⟨#[10]⟩ : ByteArray).size = 1 := rfl
    rw [joinT, sumL, ByteArray.size_append, ByteArray.size_append, joinT_size xs k, e]
    cases xs[k]? with
    | none => show _ + (0 + 1) = _ + (_ + 0); omega
    | some x => show _ + (x.t.size + 1) = _ + (_ + x.t.size); omega

set_option maxHeartbeats 1000000 in
set_option maxRecDepth 100000 in
theorem spec_JoinLines_any (A : Option Addr) (n c : Nat) (xs : List Lin) (W : World) (hr : LR W W.heap.size A n xs) (hn : n + sumL xs n ≤ 1048576) :
    Calls Try.prog 5 #[.slice A n c] W fun e w' => e = .returned (.string (joinT xs n)) ∧ W = w' := by
  have HR := Lib.hid hr
  have HN := Lib.hid hn
  have h1 : (n : Int) ≤ 1048576 := by omega
  clear hr hn
  go_enter Try.func5, Try.ntmps5
  go_wp2_with fail
  go_loop [3, 4] (fun s i => ∃ (k : Nat) (X : ByteArray), k ≤ n ∧ i = .int .i64 k ∧ s = .string X ∧ Hid (X = joinT xs k)) (fun _ i => n - (intOf i).toNat)
  case atStart => exact ⟨0, _, Nat.zero_le _, rfl, rfl, by show _ = _; rfl⟩
  case round =>
    obtain ⟨k, X, hk, rfl, rfl, HX⟩ := hrel
    by_cases hlt : k < n
    · have hl : Hid (k < xs.length) := by have := HR.out.1; show _ < _; omega
      obtain ⟨g, rfl, hg, q0, q1⟩ := HR.out.at_ hlt hl.out
      have hx : xs[k]? = some (xs[k]'hl.out) := List.getElem?_eq_getElem hl.out
      generalize xs[k]'hl.out = x at q0 q1 hx
      obtain ⟨xn, xt⟩ := x
      dsimp only at q0 q1
      have hm := sumL_mono (xs := xs) (j := k + 1) (k := n) (by omega)
      rw [sumL_next hx] at hm
      dsimp only at hm
      have hX : X.size ≤ 1048576 := by have := joinT_size xs k; rw [← HX.out] at this; have := HN.out; omega
      have hT : xt.size ≤ 1048576 := by have := HN.out; omega
      have HE : Hid (X ++ (xt ++ ⟨#[10]⟩) = joinT xs (k + 1)) := by show _ = _; rw [joinT_next hx, HX.out]
      clear hx hm
      have b0 : (0 : Int) ≤ (k : Int) := by omega
      have b1 : (k : Int) < (n : Int) := by omega
      go_wp2_with fail
      go_round
      case rel => exact ⟨k + 1, _, by omega, by go_num, rfl, HE⟩
      case measure => simp [intOf]; omega
    · have hkn : k = n := by omega
      have HE : Hid (X = joinT xs n) := by show _ = _; rw [HX.out, hkn]
      go_wp2_with fail
      go_ret
      exact ⟨str_ret HE.out, rfl⟩

set_option maxHeartbeats 2000000 in
set_option maxRecDepth 100000 in
theorem writeLines_any (B b n c : Nat) (A : Option Addr) (xs : List Lin) (W : World) (hr : LR W B A n xs) (hb : Lib.IsBuilder 37 5 B b [] W) (hBw : B ≤ W.heap.size) (hn : n + sumL xs n ≤ 1048576) :
    Calls Try.prog 11 #[.iface 34 (.pointer (some ⟨b, 0, none⟩)), .slice A n c] W fun e w' => e = .returned (.tuple #[]) ∧ Lib.IsBuilder 37 5 B b (Lib.strCells (joinT xs n)) w' ∧ Below B W w' := by
  have HR := Lib.hid hr
  have HB0 := Lib.hid hb
  have HBW := Lib.hid hBw
  have HN := Lib.hid hn
  have h1 : (n : Int) ≤ 1048576 := by omega
  clear hr hb hBw hn
  have na := nil_ahead ⟨b, 0, none⟩
  have mw := method_ws ⟨b, 0, none⟩
  go_enter Try.func11, Try.ntmps11
  go_wp2_with fail
  go_loopw [8] (fun i wr => ∃ k : Nat, k ≤ n ∧ i = .int .i64 k ∧ Hid (Lib.IsBuilder 37 5 B b (Lib.strCells (joinT xs k)) wr) ∧ Hid (Below B W wr)) (fun i _ => n - (intOf i).toNat)
  case atStart => exact ⟨0, Nat.zero_le _, rfl, HB0, Below.refl _ _⟩
  case round =>
    obtain ⟨k, hk, rfl, HB, HW⟩ := hrel
    by_cases hlt : k < n
    · have hl : Hid (k < xs.length) := by have := HR.out.1; show _ < _; omega
      obtain ⟨g, rfl, hg, hc⟩ := HR.out.at_ hlt hl.out
      obtain ⟨q0, q1⟩ := hc.below HW.out hg
      have hx : xs[k]? = some (xs[k]'hl.out) := List.getElem?_eq_getElem hl.out
      generalize xs[k]'hl.out = x at q0 q1 hx
      obtain ⟨xn, xt⟩ := x
      dsimp only at q0 q1
      have hm := sumL_mono (xs := xs) (j := k + 1) (k := n) (by omega)
      rw [sumL_next hx] at hm
      dsimp only at hm
      have hj := joinT_size xs k
      have L1 : Hid ((Lib.strCells (joinT xs k)).length + xt.size ≤ 140737488355328) := by show _ ≤ _; rw [Lib.strCells_length]; have := HN.out; omega
      have L2 : Hid ((Lib.strCells (joinT xs k) ++ Lib.strCells xt).length + (⟨#[10]⟩ : ByteArray).size ≤ 140737488355328) := by
        show _ ≤ _
        have e : (⟨#[10]⟩ : ByteArray).size = 1 := rfl
        rw [List.length_append, Lib.strCells_length, Lib.strCells_length, e]
        have := HN.out
        omega
      have HE : Hid (Lib.strCells (joinT xs k) ++ Lib.strCells xt ++ Lib.strCells ⟨#[10]⟩ = Lib.strCells (joinT xs (k + 1))) := by show _ = _; rw [joinT_next hx, strCells_app, strCells_app, List.append_assoc]
      clear hx hm hj hc hg
      have b0 : (0 : Int) ≤ (k : Int) := by omega
      have b1 : (k : Int) < (n : Int) := by omega
      have HA : Hid (∀ o, Lib.IsBuilder 37 5 B b (Lib.strCells (joinT xs k)) (wr.alloc o)) := fun o => builder_keep HB.out ((Below.refl _ _).alloc (Nat.le_refl _) o)
      have HWA : Hid (∀ o, Below B W (wr.alloc o)) := fun o => HW.out.alloc (Nat.le_trans HBW.out HW.out.size) o
      go_wp2_with (go_at_call 30; refine (WriteString_any B b _ xt _ (HA.out _) L1.out (Nat.le_trans HBW.out (HWA.out _).size)).mono ?_; rintro e w1 ⟨rfl, hB1, hb1⟩; have HB1 := Lib.hid hB1; have HW1 : Hid (Below B W w1) := (HWA.out _).trans hb1; clear hB1 hb1 HA L1)
      go_wp2_with (go_at_call 30; refine (WriteString_any B b _ ⟨#[10]⟩ _ (.inr HB1.out) L2.out (Nat.le_trans HBW.out HW1.out.size)).mono ?_; rintro e w2 ⟨rfl, hB2, hb2⟩; have HB2 := Lib.hid hB2; have HW2 : Hid (Below B W w2) := HW1.out.trans hb2; clear hB2 hb2)
      go_roundw
      case rel => exact ⟨k + 1, by omega, by go_num, Lib.hid (by rw [← HE.out]; exact .inr HB2.out), HW2⟩
      case measure => simp [intOf]; omega
    · have hkn : k = n := by omega
      subst hkn
      go_wp2_with fail
      go_end0
      exact ⟨rfl, HB.out, HW.out⟩
end Go.Proofs.Ytfobjedobojbnab
