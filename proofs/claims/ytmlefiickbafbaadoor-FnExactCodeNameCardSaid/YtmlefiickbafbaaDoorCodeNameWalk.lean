/- The law's walk: FnExactCodeName. Condition: the table holds what the program's text lays. -/
import Derived.Test.YtmlefiickbafbaaDoorCards
import Derived.WalkKit
import Derived.WalkLawsBesides
import Derived.Below
import Derived.Lib.Hide
import Derived.Lib.Strings
import Derived.Lib.LaidTab
namespace Go.Proofs.YtmlefiickbafbaaDoor
open Go Go.RowKit

theorem gNames : Tryd.prog.globalNamed "loop.example/g00873/impl.codeNames" = some 0 := by kernel_rfl
theorem tNames : (Tryd.prog.globals[0]?).map (·.type) = some 41 := by kernel_rfl
theorem cNames : Tryd.prog.cellsOf 41 = 12 := by kernel_rfl
theorem cString : Tryd.prog.cellsOf 9 = 1 := by kernel_rfl

def nameBytes : List (List UInt8) := [[111, 107], [105, 110, 118, 97, 108, 105, 100], [115, 121, 110, 116, 97, 120], [114, 97, 110, 103, 101], [116, 121, 112, 101], [117, 110, 100, 101, 102, 105, 110, 101, 100], [102, 117, 108, 108], [115, 116, 101, 112, 115], [100, 105, 118, 105, 115, 105, 111, 110], [115, 116, 97, 99, 107], [115, 116, 97, 116, 101], [110, 111, 116, 45, 102, 111, 117, 110, 100]]
theorem laid_names : (Rows.laid_loop_example_g00873_impl_codeNames : DataW Unit) = .agg (nameBytes.map fun l => .lit (.string l)) := rfl

/-- An array of strings that reads as the table holds the table's strings, cell for cell. -/
theorem cells_of_strs {H : Type} {enc : TypeId × Value → H} {P : Program} {w : World} {base : Nat} {sp : Nat → Bool} {held : Bool} {fuel : Nat} {t e : TypeId} {n : Nat} {cs : List Value} {ss : List (List UInt8)} {p : List MemPlace}
    (ht : P.underlying t = some (.array n e)) (he : P.underlying e = some .string) (hce : P.cellsOf e = 1) (hct : P.cellsOf t = n)
    (h : DataW.trod enc P w base sp held fuel t cs = some (.agg (ss.map fun l => .lit (.string l)), p)) (i : Nat) (hi : i < ss.length) : cs[i]? = some (.string ⟨(ss[i]).toArray⟩) := by
  cases fuel with
  | zero => simp [DataW.trod] at h
  | succ fuel =>
    simp only [DataW.trod, ht, hce, hct, Nat.mul_one] at h
    split at h
    · rename_i hl
      obtain ⟨xs, hm, hx⟩ := Option.map_eq_some_iff.1 h
      have hxs : xs.map (·.1) = ss.map fun l => (DataW.lit (.string l) : DataW H) := by
        have := congrArg Prod.fst hx
        simpa using this
      have hxl : xs.length = n := by simpa using Lib.mapM_length hm
      have hzl : ss.length = n := by
        have := congrArg List.length hxs
        simp at this
        omega
      have hin : i < n := by omega
      obtain ⟨b, hb, hf⟩ := Lib.mapM_at hm i i (by simp [hin])
      obtain ⟨s, hc, rfl, _⟩ := DataW.trod_string he hf
      have h1 : cs[i]? = some (.string s) := by
        have := congrArg (·[0]?) hc
        simpa [List.getElem?_take, List.getElem?_drop] using this
      have h2 : (xs.map (·.1))[i]? = some (DataW.lit (.string s.data.toList) : DataW H) := by simp [hb]
      rw [hxs] at h2
      simp only [List.getElem?_map, Option.map_eq_some_iff, DataW.lit.injEq, Lit.string.injEq] at h2
      obtain ⟨l, hl', rfl⟩ := h2
      rw [List.getElem?_eq_getElem hi] at hl'
      injection hl' with hl'
      rw [h1, hl', Lib.mk_data]
    · cases h

theorem names_at {W : World} (hL : laidMetH Tryd.prog Rows.fnExactCodeNameRow.laid W) (i : Nat) (hi : i < nameBytes.length) : W.cell? ⟨0, i, none⟩ = some (.string ⟨(nameBytes[i]).toArray⟩) := by
  have hL' : laidMet Tryd.prog [("loop.example/g00873/impl.codeNames", .agg (nameBytes.map fun l => .lit (.string l)))] W := hL
  obtain ⟨ps, ⟨g, t, cs, fuel, p, q, hg, ht, hvar, hd, _, _⟩, _⟩ := hL'
  obtain rfl := Option.some.inj (gNames.symm.trans hg)
  obtain rfl := Option.some.inj (tNames.symm.trans ht)
  have := cells_of_strs Tryd.underlying41 Tryd.underlying9 cString cNames hd i hi
  rw [World.var?_cell hg hvar i, ← Array.getElem?_toList]
  exact this

/-- What CodeName answers. -/
def nameOf (c : Int) : ByteArray := if 0 ≤ c then ⟨(nameBytes[c.toNat]?.getD []).toArray⟩ else ⟨#[]⟩
theorem nameOf_out {c : Int} (h : c < 0 ∨ 11 < c) : nameOf c = ⟨#[]⟩ := by
  unfold nameOf
  split
  · rw [List.getElem?_eq_none (by show 12 ≤ _; omega)]; rfl
  · rfl

set_option maxHeartbeats 1000000 in
theorem spec_CodeName_any (c : Int) (W : World) :
    Calls Tryd.prog 10 #[.int .i64 c] W fun e w' => e = .returned (.string (nameOf c)) ∧ Below W.heap.size W w' := by
  by_cases h : c < 0
  · rw [nameOf_out (.inl h)]
    go_enter Tryd.func10, Tryd.ntmps10
    go_wp2
    all_goals go_ret
    all_goals exact ⟨rfl, by repeat (first | exact Below.refl _ _ | (refine Below.alloc ?_ (by simp) _))⟩
  by_cases h2 : 11 < c
  · rw [nameOf_out (.inr h2)]
    have h' : 12 ≤ c := by omega
    have h'' : 0 ≤ c := by omega
    have hd : decide (c ≤ 11) = false := by simp; omega
    clear h h2
    go_enter Tryd.func10, Tryd.ntmps10
    go_wp2
    all_goals go_ret
    all_goals exact ⟨rfl, by repeat (first | exact Below.refl _ _ | (refine Below.alloc ?_ (by simp) _))⟩
  obtain rfl | rfl | rfl | rfl | rfl | rfl | rfl | rfl | rfl | rfl | rfl | rfl : c = 0 ∨ c = 1 ∨ c = 2 ∨ c = 3 ∨ c = 4 ∨ c = 5 ∨ c = 6 ∨ c = 7 ∨ c = 8 ∨ c = 9 ∨ c = 10 ∨ c = 11 := by omega
  all_goals
    clear h h2
    go_enter Tryd.func10, Tryd.ntmps10
    go_wp2
    go_ret
    exact ⟨rfl, by repeat (first | exact Below.refl _ _ | (refine Below.alloc ?_ (by simp) _))⟩

theorem impl_CodeName_any (c : Int) (W : World) (hN : ∀ (i : Nat) (hi : i < nameBytes.length), W.cell? ⟨0, i, none⟩ = some (.string ⟨(nameBytes[i]).toArray⟩)) :
    Calls Tryd.prog 11 #[.int .i64 c] W fun e w' => e = .returned (.string (nameOf c)) ∧ W = w' := by
  by_cases h : c < 0
  · rw [nameOf_out (.inl h)]
    clear hN
    go_enter Tryd.func11, Tryd.ntmps11
    go_wp2
    all_goals go_ret
    all_goals exact ⟨rfl, rfl⟩
  by_cases h2 : 11 < c
  · rw [nameOf_out (.inr h2)]
    have h' : 12 ≤ c := by omega
    have h'' : 0 ≤ c := by omega
    clear h h2 hN
    go_enter Tryd.func11, Tryd.ntmps11
    go_wp2
    all_goals go_ret
    all_goals exact ⟨rfl, rfl⟩
  have hc := hN c.toNat (by show _ < 12; omega)
  have e : nameOf c = ⟨(nameBytes[c.toNat]'(by show _ < 12; omega)).toArray⟩ := by
    unfold nameOf
    rw [if_pos (by omega)]
    rw [List.getElem?_eq_getElem (by show _ < 12; omega)]; rfl
  rw [← e] at hc
  have h' : c < 12 := by omega
  have h'' : 0 ≤ c := by omega
  clear h h2 hN e
  go_enter Tryd.func11, Tryd.ntmps11
  go_wp2
  all_goals go_ret
  all_goals exact ⟨rfl, rfl⟩

theorem heap_pos {W : World} {o : Nat} {b : Nat} {v : Value} (h : W.cell? ⟨b, o, none⟩ = some v) : b < W.heap.size := by
  rcases Nat.lt_or_ge b W.heap.size with h1 | h1
  · exact h1
  · simp [World.cell?, Array.getElem?_eq_none h1] at h

theorem walk_FnExactCodeName (c : Int) (_w0 : (Lit.int .i64 c).wf = true) (W : World) (hL : laidMetH Tryd.prog Rows.fnExactCodeNameRow.laid W) :
    Calls Tryd.prog 3 #[.int .i64 c] W fun e w' => e = .returned (.bool true) ∧ Below W.heap.size W w' := by
  have hN : Hid (∀ (i : Nat) (hi : i < nameBytes.length), W.cell? ⟨0, i, none⟩ = some (.string ⟨(nameBytes[i]).toArray⟩)) := fun i hi => names_at hL i hi
  have hp : Hid (0 < W.heap.size) := heap_pos (names_at hL 0 (by decide))
  clear hL
  generalize hs : nameOf c = s
  have HS : Hid (nameOf c = s) := hs
  clear hs
  go_enter Tryd.func3, Tryd.ntmps3
  go_wp2_with (first
    | (go_at_call 10; refine (spec_CodeName_any c _).mono ?_; rintro e w1 ⟨rfl, hb⟩; rw [HS.out]; have HB := Lib.hid hb; clear hb)
    | (go_at_call 11; refine (impl_CodeName_any c _ (fun i hi => (HB.out.cell (p := ⟨0, i, none⟩) hp.out).trans (hN.out i hi))).mono ?_; rintro e w' ⟨rfl, rfl⟩; rw [HS.out]))
  all_goals go_ret
  all_goals exact ⟨rfl, HB.out⟩
end Go.Proofs.YtmlefiickbafbaaDoor
