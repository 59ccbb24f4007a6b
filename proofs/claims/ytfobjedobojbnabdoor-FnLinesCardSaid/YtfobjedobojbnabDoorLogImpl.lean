/- Contract: LogicalLines of the program. Condition: the listed variable of the library. -/
import Derived.Test.YtfobjedobojbnabDoorAppSt
import Derived.Test.YtfobjedobojbnabDoorSourceC
namespace Go.Proofs.YtfobjedobojbnabDoor
open Go Go.RowKit

theorem logT_ge : ∀ (xs acc : List Lin), acc.length ≤ (logT xs acc).length
  | [], acc => Nat.le_refl _
  | x :: xs, acc => Nat.le_trans (by show acc.length ≤ (acc ++ _).length; simp) (logT_ge xs (stmL x acc))
/-- What LogicalLines answers: the statements, the number of the line at fault, the code. -/
def logG (s : ByteArray) : List Lin × Nat × Int :=
  if sourceB s = false then ([], 0, 1) else if (combT (linesT s) 0 []).2 = 0 then (logT (combT (linesT s) 0 []).1 [], 0, 0) else ([], (combT (linesT s) 0 []).2, 2)
/-- It comes back as a tuple, with a row of its own. -/
def RetsG (W : World) (r : List Lin × Nat × Int) (e : Ending) (w' : World) : Prop :=
  ∃ A c, e = Ending.returned (.tuple #[Value.slice A r.1.length c, .int .i64 (r.2.1 : Int), .int .i64 r.2.2]) ∧ RowL w' W.heap.size w'.heap.size A r.1 ∧ Below W.heap.size W w'
theorem source_facts {s : ByteArray} (h : sourceB s = true) : s.size ≤ 4000 ∧ (linesT s).length ≤ 120 := by
  unfold sourceB at h
  simp only [Bool.and_eq_true, decide_eq_true_eq] at h
  refine ⟨h.1.1, ?_⟩
  have := h.2
  unfold lineCount at this
  unfold linesT
  split <;> simp_all
/-- All facts on a valid source that a walk needs. -/
theorem comb_facts {s : ByteArray} (h : sourceB s = true) : (∀ (j : Nat) (t : ByteArray), (linesT s)[j]? = some t → t.size ≤ 4000) ∧ bytesL (combT (linesT s) 0 []).1 ≤ 480000 ∧ (combT (linesT s) 0 []).1.length ≤ 120 := by
  obtain ⟨h1, h2⟩ := source_facts h
  have hz : ∀ (j : Nat) (t : ByteArray), (linesT s)[j]? = some t → t.size ≤ 4000 := fun j t ht => Nat.le_trans (linesT_size s j t ht) h1
  refine ⟨hz, ?_⟩
  have := combT_size (linesT s) 0 [] (fun t ht => by obtain ⟨j, hj⟩ := List.getElem?_of_mem ht; exact hz j t hj)
  simp only [bytesL, List.length_nil] at this
  omega

set_option maxHeartbeats 4000000 in
set_option maxRecDepth 100000 in
theorem impl_LogicalLines_any (s : ByteArray) (m : Int) (W : World) (hs : s.size ≤ maxLen) (hm : W.cell? ⟨1, 0, none⟩ = some (.int .i64 m)) :
    Calls Tryd.prog 8 #[.string s] W (RetsG W (logG s)) := by
  have HM := Lib.hid hm
  have HG : Hid (1 < W.heap.size) := heap_pos hm
  have HS : Hid (s.size ≤ maxLen) := hs
  clear hm hs
  obtain ⟨b, hsb⟩ : ∃ b, sourceB s = b := ⟨_, rfl⟩
  have HV : Hid (Calls Tryd.prog 30 #[.string s] W fun e w' => e = .returned (.bool b) ∧ Below W.heap.size W w') := by
    show Calls _ _ _ _ _
    have := impl_ValidSource_any s m W HS.out HM.out
    rwa [hsb] at this
  cases b
  · have e1 : logG s = ([], 0, 1) := by simp [logG, hsb]
    rw [e1]
    clear hsb e1
    go_enter Tryd.func8, Tryd.ntmps8
    go_wp2_with (go_at_call 30; refine HV.out.mono ?_; rintro e w1 ⟨rfl, hb⟩; have B1 := Lib.hid hb; clear hb)
    refine bodyPost_ret (v := .tuple #[.slice none 0 0, .int .i64 0, .int .i64 1]) (by simp [results, Tryd.results8, go_sem]) rfl ?_
    exact ⟨none, 0, rfl, fun h => absurd h (Nat.lt_irrefl 0), B1.out⟩
  · obtain ⟨h4, h120⟩ := source_facts hsb
    obtain ⟨hz, hby, hln⟩ := comb_facts hsb
    have hl9 := logT_length (combT (linesT s) 0 []).1 []
    have HI : Hid (∀ w, Below W.heap.size W w → Calls Tryd.prog 32 #[.string s] w (RetsO w (linesT s))) := fun w hb => impl_lines_o s m w (by omega) ((hb.cell (p := ⟨1, 0, none⟩) HG.out).trans HM.out)
    have e1 : logG s = if (combT (linesT s) 0 []).2 = 0 then (logT (combT (linesT s) 0 []).1 [], 0, 0) else ([], (combT (linesT s) 0 []).2, 2) := by simp [logG, hsb]
    rw [e1]
    clear e1 hsb
    generalize linesT s = ls at h120 hz hby hln hl9 HI ⊢
    have HZ := Lib.hid hz
    obtain ⟨r, hr⟩ : ∃ r, combT ls 0 [] = r := ⟨_, rfl⟩
    rw [hr] at hby hln hl9 ⊢
    obtain ⟨cs, ft⟩ := r
    dsimp only at hby hln hl9 ⊢
    have HC : Hid (∀ A n c w, SR w w.heap.size A n ls → n ≤ 121 → Calls Tryd.prog 31 #[.slice A n c] w (RetsC w (cs, ft))) := fun A n c w h1 h2 => by
      have := combineLines_any A n c ls w h1 h2 HZ.out
      rwa [hr] at this
    clear hr hz h4
    by_cases h0 : ft = 0
    · subst h0
      rw [if_pos rfl]
      go_enter Tryd.func8, Tryd.ntmps8
      go_wp2_with (first
        | (go_at_call 30; refine HV.out.mono ?_; rintro e w1 ⟨rfl, hb⟩; have B1 := Lib.hid hb; clear hb)
        | (go_at_call 32; refine (HI.out _ B1.out).mono ?_; rintro e w2 ⟨A2, c2, rfl, hr, hb⟩; have R2 := Lib.hid hr; have B2 := Lib.hid (B1.out.trans (hb.mono B1.out.size)); clear hb hr)
        | (go_at_call 31; refine (HC.out _ _ _ _ R2.out.sr (by omega)).mono ?_; rintro e w3 ⟨A3, c3, rfl, hr, hb⟩; have R3 := Lib.hid hr.lr; have B3 := Lib.hid (B2.out.trans (hb.mono B2.out.size)); clear hb hr))
      go_loopw [7, 24] (fun v i wr => ∃ (k : Nat) (acc : List Lin), k ≤ cs.length ∧ i = .int .i64 k ∧ Hid (OwnL wr w3.heap.size v acc) ∧ Hid (logT (cs.drop k) acc = logT cs []) ∧ Hid (Below w3.heap.size w3 wr)) (fun _ i _ => cs.length - (intOf i).toNat)
      case atStart => exact ⟨0, [], Nat.zero_le _, rfl, World.ownsRow_nil _ _ _ _, rfl, Below.refl _ _⟩
      case round =>
        obtain ⟨k, acc, hk, rfl, HO, HE, HW⟩ := hrel
        by_cases hlt : k < cs.length
        · have hl : Hid (k < cs.length) := hlt
          obtain ⟨g, rfl, hg, hc⟩ := R3.out.at_ hlt hl.out
          have hxk : cs[k]? = some (cs[k]'hl.out) := List.getElem?_eq_getElem hl.out
          obtain ⟨q0, q1⟩ := hc.below HW.out hg
          generalize cs[k]'hl.out = x at hxk q0 q1
          have hbx := bytesL_at hxk
          have hnx := logT_next (acc := acc) hxk
          have hge := logT_ge (cs.drop (k + 1)) (stmL x acc)
          have hge2 := logT_ge (cs.drop k) acc
          rw [HE.out] at hge2
          have HNX := Lib.hid hnx
          have b0 : (0 : Int) ≤ (k : Int) := by omega
          have b1 : (k : Int) < (cs.length : Int) := by omega
          have ha : acc.length ≤ 1048576 := by simp only [List.length_nil] at hl9; omega
          have hx1 : x.t.size ≤ 1048576 := by omega
          have HA := Lib.hid ha
          have HX1 := Lib.hid hx1
          have HSZ : Hid (w3.heap.size ≤ wr.heap.size) := HW.out.size
          clear hc hxk hnx hge hge2 ha hx1 hbx
          obtain ⟨xn, xt⟩ := x
          dsimp only at q0 q1
          go_wp2_with (go_at_call 33; refine (appendStatements_any w3.heap.size _ acc ⟨xn, xt⟩ _ (ownL_keep HO.out ((Below.refl _ _).alloc (Nat.le_refl _) _)) (by have := HSZ.out; simp; omega) HX1.out HA.out).mono ?_; rintro e w5 ⟨v', rfl, ho, hb⟩; have HO5 := Lib.hid ho; have HB5 := Lib.hid ((HW.out.alloc HSZ.out _).trans hb); clear ho hb)
          go_roundw
          case rel => exact ⟨k + 1, stmL ⟨xn, xt⟩ acc, by omega, by go_num, HO5, by show _ = _; rw [← HE.out, HNX.out], HB5⟩
          case measure => simp [intOf]; omega
        · have hd : cs.drop k = [] := List.drop_eq_nil_of_le (by omega)
          have HR : Hid (acc = logT cs []) := by
            show _ = _
            rw [← HE.out, hd, logT]
          clear hd
          obtain ⟨A', c', rfl, hrow⟩ := ownL_row HO.out
          have HROW := Lib.hid hrow
          clear hrow
          go_wp2_with fail
          refine bodyPost_ret (v := .tuple #[.slice A' acc.length c', .int .i64 0, .int .i64 0]) (by simp [results, Tryd.results8, go_sem]) rfl ?_
          rw [← HR.out]
          refine ⟨A', c', rfl, fun hn => ?_, B3.out.trans (HW.out.mono B3.out.size)⟩
          obtain ⟨g, cells, e, h1, h2⟩ := HROW.out hn
          exact ⟨g, cells, e, Nat.le_trans B3.out.size h1, h2⟩
    · rw [if_neg h0]
      have d0 : ((ft : Int) != 0) = true := by simpa using h0
      have d1 : ((ft : Int) == 0) = false := by simpa using h0
      go_enter Tryd.func8, Tryd.ntmps8
      go_wp2_with (first
        | (go_at_call 30; refine HV.out.mono ?_; rintro e w1 ⟨rfl, hb⟩; have B1 := Lib.hid hb; clear hb)
        | (go_at_call 32; refine (HI.out _ B1.out).mono ?_; rintro e w2 ⟨A2, c2, rfl, hr, hb⟩; have R2 := Lib.hid hr; have B2 := Lib.hid (B1.out.trans (hb.mono B1.out.size)); clear hb hr)
        | (go_at_call 31; refine (HC.out _ _ _ _ R2.out.sr (by omega)).mono ?_; rintro e w3 ⟨A3, c3, rfl, hr, hb⟩; have R3 := Lib.hid hr.lr; have B3 := Lib.hid (B2.out.trans (hb.mono B2.out.size)); clear hb hr))
      refine bodyPost_ret (v := .tuple #[.slice none 0 0, .int .i64 (ft : Int), .int .i64 2]) (by simp [results, Tryd.results8, go_sem]) rfl ?_
      exact ⟨none, 0, rfl, fun h => absurd h (Nat.lt_irrefl 0), B3.out⟩
end Go.Proofs.YtfobjedobojbnabDoor
