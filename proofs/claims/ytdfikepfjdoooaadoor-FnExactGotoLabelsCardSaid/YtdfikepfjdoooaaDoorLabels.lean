/- Contracts: GotoLabels of the model and of the program. Condition: the table holds what the program's text lays. -/
import Derived.Test.YtdfikepfjdoooaaDoorGoto
import Derived.Test.YtdfikepfjdoooaaDoorRowO
import Derived.Maps.AppendAt
namespace Go.Proofs.YtdfikepfjdoooaaDoor
open Go Go.RowKit

/-- What GotoLabels answers. -/
def labsT (a s f : ByteArray) : List ByteArray := if gotoB a s f = true then [a, s, f].filter (fun x => x.size != 0) else []

theorem labs_step (ls : List ByteArray) (k : Nat) (x : ByteArray) (h : ls[k]? = some x) : ((ls.take (k + 1)).filter (fun x => x.size != 0)) = ((ls.take k).filter (fun x => x.size != 0)) ++ (if x.size = 0 then [] else [x]) := by
  rw [List.take_add_one, h, List.filter_append]
  congr 1
  by_cases h0 : x.size = 0
  · rw [if_pos h0]; simp [h0]
  · rw [if_neg h0]; simp [h0]
theorem labs_cells {a s f x : ByteArray} {k : Nat} (h : [a, s, f][k]? = some x) : (#[Value.string a, Value.string s, Value.string f] : Array Value)[k]? = some (.string x) := by
  match k, h with
  | 0, h => simpa using h
  | 1, h => simpa using h
  | 2, h => simpa using h

theorem idx3 {a s f x : ByteArray} {k : Nat} (w : World) (h : [a, s, f][k]? = some x) : (Instr.index 93 (.agg #[.string a, .string s, .string f]) (.int .i64 (k : Int))).run Tryd.prog w = .ok (.string x) w := by
  obtain ⟨i0, hi0, hz0, hz1, hz2⟩ := info_parts strInfo
  match k, h with
  | 0, h => simp at h; subst h; simp [Instr.index, run_underlying Tryd.underlying93, asIntOf, sizeOf, typeInfo, hi0, hz1, go_sem]
  | 1, h => simp at h; subst h; simp [Instr.index, run_underlying Tryd.underlying93, asIntOf, sizeOf, typeInfo, hi0, hz1, go_sem]
  | 2, h => simp at h; subst h; simp [Instr.index, run_underlying Tryd.underlying93, asIntOf, sizeOf, typeInfo, hi0, hz1, go_sem]

set_option maxHeartbeats 2000000 in
set_option maxRecDepth 100000 in
theorem spec_GotoLabels_any (a s f : ByteArray) (W : World) (ha : a.size ≤ 1048576) (hs : s.size ≤ 1048576) (hf : f.size ≤ 1048576) :
    Calls Tryd.prog 44 #[.agg #[Value.string a, Value.string s, Value.string f]] W (RetsO W (labsT a s f)) := by
  obtain ⟨i0, hi0, hz0, hz1, hz2⟩ := info_parts strInfo
  have HA : Hid (a.size ≤ maxLen) := by show _ ≤ _; unfold maxLen; omega
  have HS : Hid (s.size ≤ maxLen) := by show _ ≤ _; unfold maxLen; omega
  have HF : Hid (f.size ≤ maxLen) := by show _ ≤ _; unfold maxLen; omega
  unfold labsT
  obtain ⟨x, hx⟩ : ∃ x, gotoB a s f = x := ⟨_, rfl⟩
  have HX := Lib.hid hx
  rw [hx]
  clear hx
  cases x
  · rw [if_neg (by simp)]
    go_enter Tryd.func44, Tryd.ntmps44
    go_wp2_with (go_at_call 39; refine (spec_ValidGoto_any _ _ _ _ HA.out HS.out HF.out).mono ?_; rintro e w1 ⟨rfl, hb⟩; rw [HX.out]; have HB : Hid (Below W.heap.size W w1) := Lib.hid (by refine Below.trans ?_ (hb.mono (by simp only [World.alloc, Array.size_push]; omega)); repeat (first | exact Below.refl _ _ | refine Below.alloc ?_ (by first | (simp; done) | (simp; omega)) _)); clear hb)
    go_ret
    exact ⟨_, _, rfl, fun h => absurd h (by simp), HB.out⟩
  · rw [if_pos rfl]
    go_enter Tryd.func44, Tryd.ntmps44
    go_wp2_with (go_at_call 39; go_loud (refine (spec_ValidGoto_any _ _ _ _ HA.out HS.out HF.out).mono ?_; rintro e w1 ⟨rfl, hb⟩; rw [HX.out]; obtain ⟨k1, f1⟩ := bcell hb; have HZ1 : Hid (W.heap.size + 1 < w1.heap.size) := Lib.hid (Nat.lt_of_lt_of_le (by simp only [World.alloc, Array.size_push]; omega) hb.size); have HO : Hid (w1.ownsRow W.heap.size 9 1 (.slice (some ⟨W.heap.size + 1, 0, none⟩) 0 0) 0 []) := Lib.hid (by have := own_lit0 (B := W.heap.size) _ _ hb (by simp); simpa using this); have HB : Hid (Below W.heap.size W w1) := Lib.hid (by refine Below.trans ?_ (hb.mono (by simp only [World.alloc, Array.size_push]; omega)); repeat (first | exact Below.refl _ _ | refine Below.alloc ?_ (by first | (simp; done) | (simp; omega)) _)); clear hb))
    obtain ⟨g3, hg3⟩ : ∃ g, w1.heap.size = g := ⟨_, rfl⟩
    have HS3 : Hid (SB (w1.alloc (.cells #[Value.string a, Value.string s, Value.string f] 9)) g3 #[Value.string a, Value.string s, Value.string f]) := by rw [← hg3]; exact heap_alloc_new w1 _
    have HG3 : Hid (W.heap.size + 1 < g3) := by rw [← hg3]; exact HZ1.out
    have HO1 : Hid ((w1.alloc (.cells #[Value.string a, Value.string s, Value.string f] 9)).ownsRow W.heap.size 9 1 (.slice (some ⟨W.heap.size + 1, 0, none⟩) 0 0) 0 []) := HO.out.alloc _
    have HB1 : Hid (Below W.heap.size W (w1.alloc (.cells #[Value.string a, Value.string s, Value.string f] 9))) := HB.out.alloc HB.out.size _
    have HL : Hid (([a, s, f] : List ByteArray).length = 3) := rfl
    have HC : Hid (∀ k x, [a, s, f][k]? = some x → (#[Value.string a, Value.string s, Value.string f] : Array Value)[k]? = some (Value.string x)) := fun k x h => labs_cells h
    rw [hg3]
    clear hg3 k1 f1 HO HB
    generalize w1.alloc (.cells #[Value.string a, Value.string s, Value.string f] 9) = w2 at HS3 HO1 HB1 ⊢
    have HM : Hid (∀ x ∈ [a, s, f], x.size ≤ 1048576) := by show ∀ x ∈ [a, s, f], x.size ≤ 1048576; simp [ha, hs, hf]
    generalize hls : ([a, s, f] : List ByteArray) = ls at HL HC HM ⊢
    generalize (#[Value.string a, Value.string s, Value.string f] : Array Value) = cs at HS3 HC ⊢
    have HLS := Lib.hid hls
    clear hls ha hs hf HA HS HF
    go_loopw [3, 19] (fun v i wr => ∃ (k : Nat) (xs : List ByteArray), k ≤ 3 ∧ i = .int .i64 k ∧ Hid (wr.ownsRow W.heap.size 9 1 v xs.length (xs.map Value.string)) ∧ Hid (v.ownBlock ≠ some g3) ∧ Hid (SB wr g3 cs) ∧ xs.length ≤ k ∧
      Hid (xs = (ls.take k).filter (fun x => x.size != 0)) ∧ Hid (Below W.heap.size W wr)) (fun _ i _ => 3 - (intOf i).toNat)
    case atStart => exact ⟨0, [], Nat.zero_le _, rfl, HO1, Lib.hid (by have := HG3.out; simp [Value.ownBlock]; omega), HS3, Nat.le_refl _, rfl, HB1⟩
    case round =>
      obtain ⟨k, xs, hk, rfl, HO, HN, HS, hx, HE, HW⟩ := hrel
      by_cases hlt : k < 3
      · obtain ⟨x, hxk⟩ : ∃ x, ls[k]? = some x := ⟨_, List.getElem?_eq_getElem (by have := HL.out; omega)⟩
        have q1 := (HS.out.cell k).trans (HC.out k x hxk)
        have HST := Lib.hid (labs_step ls k x hxk)
        have b0 : (0 : Int) ≤ (k : Int) := by omega
        have b1 : (k : Int) < 3 := by omega
        have HMx : x.size ≤ 1048576 := HM.out x (List.mem_of_getElem? hxk)
        clear hxk
        by_cases h0 : x.size = 0
        · have e1 := nil_of_size h0
          have e2 := isEmpty_of_size h0
          have H0 := Lib.hid h0
          clear h0
          go_wp2_with fail
          go_roundw
          case rel => exact ⟨k + 1, xs, by omega, by go_num, HO, HN, HS, by omega, Lib.hid (by rw [HST.out, if_pos H0.out, List.append_nil]; exact HE.out), HW⟩
          case measure => simp [intOf]; omega
        · have e1 := ne_nil_of_size (s := x) (by omega)
          have e2 := not_isEmpty_of_size (s := x) (by omega)
          have H0 := Lib.hid h0
          clear h0
          go_wp2_with (at_builtin; refine wpList_append_own_at _ rfl _ _ 56 rfl W.heap.size 9 i0 (.string ByteArray.empty) 1 16 Tryd.underlying56 hi0 hz0 hz1 hz2 rfl (by decide) _ _ _ rfl (HO.out.alloc _) ⟨wr.heap.size, 0, none⟩ 1 1 [.string x] rfl rfl (cell_one_new _ _ _) (fun x hx => by simp at hx; subst hx; rfl) (by unfold maxLen; omega) (by omega) (by have := HW.out.size; simp; omega) ?_; intro v1 w1 hown1 hgr1 _ hat)
          go_roundw
          case rel =>
            refine ⟨k + 1, xs ++ [x], by omega, by go_num, Lib.hid (by simpa using hown1), ?_, ?_, by simp; omega, Lib.hid (by rw [HST.out, if_neg H0.out, ← HE.out]), ?_⟩
            · have hl := HS.out.lt
              refine Lib.hid ?_
              rcases hat with h | h
              · rw [h]; exact HN.out
              · rw [h]; simp; omega
            · exact (hgr1.block g3 (by have := HS.out.lt; simp; omega) (fun h => HN.out h.symm)).trans ((World.grownBy_alloc wr _ none).block g3 HS.out.lt (by simp) |>.trans HS.out)
            · exact (HW.out.alloc HW.out.size _).grown hgr1 (by have := HW.out.size; simp; omega) (own_ge HO.out)
          case measure => simp [intOf]; omega
      · have hk3 : k = 3 := by omega
        subst hk3
        go_wp2_with fail
        go_ret
        have hE : xs = ls.filter (fun x => x.size != 0) := by
          have h := HE.out
          rw [List.take_of_length_le (by rw [HL.out]; exact Nat.le_refl _)] at h
          exact h
        rw [HLS.out, ← hE]
        exact retsO_own HO.out HW.out

set_option maxHeartbeats 2000000 in
set_option maxRecDepth 100000 in
theorem impl_GotoLabels_any (a s f : ByteArray) (W : World) (ha : a.size ≤ 1048576) (hs : s.size ≤ 1048576) (hf : f.size ≤ 1048576) (hT : Classes W) :
    Calls Tryd.prog 45 #[.agg #[.string a, .string s, .string f]] W (RetsO W (labsT a s f)) := by
  obtain ⟨i0, hi0, hz0, hz1, hz2⟩ := info_parts strInfo
  have HT : Hid (Classes W) := hT
  have HG : Hid (0 < W.heap.size) := heap_pos (hT.at_ 0 (by decide))
  have HA : Hid (a.size ≤ maxLen) := by show _ ≤ _; unfold maxLen; omega
  have HS : Hid (s.size ≤ maxLen) := by show _ ≤ _; unfold maxLen; omega
  have HF : Hid (f.size ≤ maxLen) := by show _ ≤ _; unfold maxLen; omega
  clear hT
  unfold labsT
  obtain ⟨x, hx⟩ : ∃ x, gotoB a s f = x := ⟨_, rfl⟩
  have HX := Lib.hid hx
  rw [hx]
  clear hx
  cases x
  · rw [if_neg (by simp)]
    go_enter Tryd.func45, Tryd.ntmps45
    go_wp2_with (go_at_call 41; refine (impl_ValidGoto_any _ _ _ _ HA.out HS.out HF.out (HT.out.below ((Below.refl _ _).alloc (Nat.le_refl _) _) HG.out)).mono ?_; rintro e w1 ⟨rfl, hb⟩; rw [HX.out]; have HB := Lib.hid (((Below.refl _ _).alloc (Nat.le_refl _) _).trans (hb.mono (B' := W.heap.size) (by simp))); clear hb)
    go_ret
    exact ⟨_, _, rfl, fun h => absurd h (by simp), HB.out⟩
  · rw [if_pos rfl]
    go_enter Tryd.func45, Tryd.ntmps45
    go_wp2_with (go_at_call 41; refine (impl_ValidGoto_any _ _ _ _ HA.out HS.out HF.out (HT.out.below ((Below.refl _ _).alloc (Nat.le_refl _) _) HG.out)).mono ?_; rintro e w1 ⟨rfl, hb⟩; rw [HX.out]; obtain ⟨k1, f1⟩ := bcell hb; have HB := Lib.hid (((Below.refl _ _).alloc (Nat.le_refl _) _).trans (hb.mono (B' := W.heap.size) (by simp))); clear hb)
    have HO1 : Hid (w1.ownsRow W.heap.size 9 1 (.slice none 0 0) 0 []) := World.ownsRow_nil _ _ _ _
    have HL : Hid (([a, s, f] : List ByteArray).length = 3) := rfl
    have HC : Hid (∀ (k : Nat) x (w : World), [a, s, f][k]? = some x → (Instr.index 93 (.agg #[.string a, .string s, .string f]) (.int .i64 (k : Int))).run Tryd.prog w = .ok (.string x) w) := fun k x w h => idx3 w h
    clear k1 f1
    have HM : Hid (∀ x ∈ [a, s, f], x.size ≤ 1048576) := by show ∀ x ∈ [a, s, f], x.size ≤ 1048576; simp [ha, hs, hf]
    have hcz : (#[Value.string a, Value.string s, Value.string f] : Array Value).size = 3 := rfl
    generalize hls : ([a, s, f] : List ByteArray) = ls at HL HC HM ⊢
    generalize (#[Value.string a, Value.string s, Value.string f] : Array Value) = cs at HC hcz ⊢
    have HLS := Lib.hid hls
    clear hls ha hs hf HA HS HF
    go_loopw [3, 16] (fun v i wr => ∃ (k : Nat) (xs : List ByteArray), k ≤ 3 ∧ i = .int .i64 k ∧ Hid (wr.ownsRow W.heap.size 9 1 v xs.length (xs.map Value.string)) ∧ xs.length ≤ k ∧
      Hid (xs = (ls.take k).filter (fun x => x.size != 0)) ∧ Hid (Below W.heap.size W wr)) (fun _ i _ => 3 - (intOf i).toNat)
    case atStart => exact ⟨0, [], Nat.zero_le _, rfl, HO1, Nat.le_refl _, rfl, HB⟩
    case round =>
      obtain ⟨k, xs, hk, rfl, HO, hx, HE, HW⟩ := hrel
      by_cases hlt : k < 3
      · obtain ⟨x, hxk⟩ : ∃ x, ls[k]? = some x := ⟨_, List.getElem?_eq_getElem (by have := HL.out; omega)⟩
        have q1 := HC.out k x wr hxk
        have HST := Lib.hid (labs_step ls k x hxk)
        have b0 : (0 : Int) ≤ (k : Int) := by omega
        have b1 : (k : Int) < 3 := by omega
        have HMx : x.size ≤ 1048576 := HM.out x (List.mem_of_getElem? hxk)
        clear hxk
        by_cases h0 : x.size = 0
        · have e1 := nil_of_size h0
          have e2 := isEmpty_of_size h0
          have H0 := Lib.hid h0
          clear h0
          go_wp2_with fail
          go_roundw
          case rel => exact ⟨k + 1, xs, by omega, by go_num, HO, by omega, Lib.hid (by rw [HST.out, if_pos H0.out, List.append_nil]; exact HE.out), HW⟩
          case measure => simp [intOf]; omega
        · have e1 := ne_nil_of_size (s := x) (by omega)
          have e2 := not_isEmpty_of_size (s := x) (by omega)
          have H0 := Lib.hid h0
          clear h0
          go_wp2_with (at_builtin; refine wpList_append_own _ rfl _ _ 56 rfl W.heap.size 9 i0 (.string ByteArray.empty) 1 16 Tryd.underlying56 hi0 hz0 hz1 hz2 rfl (by decide) _ _ _ rfl (HO.out.alloc _) ⟨wr.heap.size, 0, none⟩ 1 1 [.string x] rfl rfl (cell_one_new _ _ _) (fun x hx => by simp at hx; subst hx; rfl) (by unfold maxLen; omega) (by omega) (by have := HW.out.size; simp; omega) ?_; intro v1 w1 hown1 hgr1 _)
          go_roundw
          case rel =>
            refine ⟨k + 1, xs ++ [x], by omega, by go_num, Lib.hid (by simpa using hown1), by simp; omega, Lib.hid (by rw [HST.out, if_neg H0.out, ← HE.out]), ?_⟩
            exact (HW.out.alloc HW.out.size _).grown hgr1 (by have := HW.out.size; simp; omega) (own_ge HO.out)
          case measure => simp [intOf]; omega
      · have hk3 : k = 3 := by omega
        subst hk3
        go_wp2_with fail
        go_ret
        have hE : xs = ls.filter (fun x => x.size != 0) := by
          have h := HE.out
          rw [List.take_of_length_le (by rw [HL.out]; exact Nat.le_refl _)] at h
          exact h
        rw [HLS.out, ← hE]
        exact retsO_own HO.out HW.out
end Go.Proofs.YtdfikepfjdoooaaDoor
