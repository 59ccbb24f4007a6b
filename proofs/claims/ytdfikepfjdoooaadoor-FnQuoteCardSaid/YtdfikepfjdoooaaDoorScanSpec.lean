/- Contracts of the model's scanner: l02One, l02Scan, ScanTokens. No condition. -/
import Derived.Test.YtdfikepfjdoooaaDoorOneDigit
import Derived.Test.YtdfikepfjdoooaaDoorOneStr
import Derived.Test.YtdfikepfjdoooaaDoorOneMark
import Derived.Test.YtdfikepfjdoooaaDoorOneNone
import Derived.Test.YtdfikepfjdoooaaDoorToks3
import Derived.Maps.AppendAt
namespace Go.Proofs.YtdfikepfjdoooaaDoor
open Go Go.RowKit

theorem mark_bytes {c : Int} (h0 : 0 ≤ c) (h1 : c ≤ 255) : cls c = 0 ∨ cls c = 1 ∨ cls c = 2 ∨ c = 39 ∨ c = 34 ∨ cls c = 4 ∨ c = 40 ∨ c = 41 ∨ c = 60 ∨ c = 62 ∨ c = 44 ∨ c = 58 ∨ cls c = 11 := by
  have := all_small (p := fun c => decide (cls c = 0 ∨ cls c = 1 ∨ cls c = 2 ∨ c = 39 ∨ c = 34 ∨ cls c = 4 ∨ c = 40 ∨ c = 41 ∨ c = 60 ∨ c = 62 ∨ c = 44 ∨ c = 58 ∨ cls c = 11)) (by decide +kernel) h0 h1
  simpa using this
theorem l02One_any (s : ByteArray) (k : Nat) (W : World) (hk : k < s.size) (hl : s.size ≤ 1048576) :
    Calls Tryd.prog 89 #[.string s, .int .i64 k] W fun e w' => e = oneE s k ∧ Below W.heap.size W w' := by
  rcases mark_bytes (PlainAid.bt_nonneg s k) (PlainAid.bt_le s k) with h | h | h | h | h | h | h | h | h | h | h | h | h
  · exact l02One_none0 s k W hk hl h
  · exact l02One_letter s k W hk hl h
  · exact l02One_digit s k W hk hl h
  · exact l02One_single s k W hk hl h
  · exact l02One_double s k W hk hl h
  · exact l02One_op s k W hk hl h
  · exact l02One_mark5 s k W hk hl h
  · exact l02One_mark6 s k W hk hl h
  · exact l02One_mark7 s k W hk hl h
  · exact l02One_mark8 s k W hk hl h
  · exact l02One_mark9 s k W hk hl h
  · exact l02One_mark10 s k W hk hl h
  · exact l02One_none11 s k W hk hl h

theorem tokInfo : (Tryd.prog.info? 46).map (fun i => (i.zero, i.size, i.bytes)) = some (some (Value.agg #[.int .i64 0, .int .i64 0, .string ByteArray.empty, .bool false, .bool false]), 5, 40) := by kernel_rfl
/-- A row of tokens of one's own. -/
abbrev Own (w : World) (B : Nat) (v : Value) (xs : List Tok) : Prop := w.ownsRow B 46 5 v xs.length (cellsT xs)
/-- The cells of a row that is handed back. -/
def RowT (w : World) (B C : Nat) (A : Option Addr) (xs : List Tok) : Prop :=
  0 < xs.length → ∃ g cs, A = some ⟨g, 0, none⟩ ∧ B ≤ g ∧ g < C ∧ TB w g cs ∧ xs.length * 5 ≤ cs.size ∧ Holds5 cs xs
section
variable {w w' : World} {B C D : Nat} {A : Option Addr} {xs : List Tok}
theorem RowT.below (h : RowT w B C A xs) (hb : Below D w w') (hD : C ≤ D) : RowT w' B C A xs := fun hn => by
  obtain ⟨g, cs, e, h1, h2, h3, h4, h5⟩ := h hn
  exact ⟨g, cs, e, h1, h2, h3.below hb (by omega), h4, h5⟩
theorem RowT.tr (h : RowT w B C A xs) : TR w C A xs.length xs := ⟨rfl, fun hn => by
  obtain ⟨g, cs, e, h1, h2, h3, h4, h5⟩ := h hn
  exact ⟨g, e, h2, fun j x hx => h5.cell5 h3 hx⟩⟩
end
/-- The call hands back such a row, a number and a code. -/
def RetsT (W : World) (r : List Tok × Nat × Int) (e : Ending) (w' : World) : Prop :=
  ∃ A c, e = Ending.returned (.tuple #[Value.slice A r.1.length c, .int .i64 (r.2.1 : Int), .int .i64 r.2.2]) ∧ RowT w' W.heap.size w'.heap.size A r.1 ∧ Below W.heap.size W w'
theorem own_row {w : World} {B : Nat} {v : Value} {xs : List Tok} (h : Own w B v xs) : ∃ A c, v = .slice A xs.length c ∧ RowT w B w.heap.size A xs := by
  rcases h.2 with ⟨rfl, h0⟩ | ⟨g, cap, cur, rfl, hg, hh, hnc, _, hcs, ht⟩
  · exact ⟨none, 0, by rw [h0], fun hn => by omega⟩
  · refine ⟨some ⟨g, 0, none⟩, cap, rfl, fun _ => ⟨g, cur, rfl, hg, TB.lt hh, hh, by omega, fun j i x v hx hi => ?_⟩⟩
    have hj : j < xs.length := (List.getElem?_eq_some_iff.1 hx).1
    have hi5 : i < 5 := (List.getElem?_eq_some_iff.1 hi).1
    have h1 := congrArg (·[j * 5 + i]?) ht
    simp only [List.getElem?_take, if_pos (show j * 5 + i < xs.length * 5 by omega), cellsT_at hx hi] at h1
    rw [← h1, Array.getElem?_toList]
theorem retsT_own {W w' : World} {v : Value} {xs : List Tok} {n : Nat} {c : Int} (h : Own w' W.heap.size v xs) (hb : Below W.heap.size W w') : RetsT W (xs, n, c) (.returned (.tuple #[v, .int .i64 (n : Int), .int .i64 c])) w' := by
  obtain ⟨A, cap, rfl, hr⟩ := own_row h
  exact ⟨A, cap, rfl, hr, hb⟩
theorem retsT_nil {W w' : World} {A : Option Addr} {cap n : Nat} {c : Int} (hb : Below W.heap.size W w') : RetsT W ([], n, c) (.returned (.tuple #[.slice A 0 cap, .int .i64 (n : Int), .int .i64 c])) w' :=
  ⟨A, cap, rfl, fun h => absurd h (by simp), hb⟩

theorem own_keep {w w' : World} {B : Nat} {v : Value} {xs : List Tok} (h : Own w B v xs) (hb : Below w.heap.size w w') : Own w' B v xs :=
  h.kept (grown_below hb none) (by cases hv : v.ownBlock <;> simp)
theorem cell_five_new (w : World) (x0 x1 x2 x3 x4 : Value) (t : TypeId) : ∀ j u, [x0, x1, x2, x3, x4][j]? = some u → (w.alloc (.cells #[x0, x1, x2, x3, x4] t)).cell? ((⟨w.heap.size, 0, none⟩ : Addr).add j) = some u := by
  intro j u hj
  have hc := cell_of_row (w.alloc (.cells #[x0, x1, x2, x3, x4] t)) w.heap.size j #[x0, x1, x2, x3, x4] t (0, 0) (heap_alloc_new w _)
  have ha : (⟨w.heap.size, 0, none⟩ : Addr).add j = ⟨w.heap.size, j, none⟩ := by unfold Addr.add; split <;> simp_all
  rw [ha, hc]
  rw [← hj]
  simp
theorem own_ge5 {w : World} {base n : Nat} {e : TypeId} {v : Value} {xs : List Value} (h : w.ownsRow base e 5 v n xs) : ∀ k, v.ownBlock = some k → base ≤ k := fun k hk => (h.lt k hk).1
theorem cells_snoc (xs : List Tok) (x : Tok) : cellsT (xs ++ [x]) = cellsT xs ++ x.vs := by rw [cellsT_append]; show cellsT xs ++ (x.vs ++ []) = _; rw [List.append_nil]

theorem cell_five_new2 (w : World) (o : Obj) (x0 x1 x2 x3 x4 : Value) (t : TypeId) : ∀ j u, [x0, x1, x2, x3, x4][j]? = some u → ((w.alloc o).alloc (.cells #[x0, x1, x2, x3, x4] t)).cell? ((⟨w.heap.size + 1, 0, none⟩ : Addr).add j) = some u := by
  have h := cell_five_new (w.alloc o) x0 x1 x2 x3 x4 t
  rwa [show (w.alloc o).heap.size = w.heap.size + 1 from by simp] at h
theorem below2 {B : Nat} {w w1 : World} (h : Below B w w1) (hB : B ≤ w.heap.size) (o o' : Obj) : Below B w ((w1.alloc o).alloc o') :=
  (h.alloc (Nat.le_trans hB h.size) o).alloc (by have := h.size; simp; omega) o'
theorem own_snoc {w : World} {B : Nat} {v : Value} {xs : List Tok} (x : Tok) (h : w.ownsRow B 46 5 v (xs.length + 1) (cellsT xs ++ [.int .i64 x.k, .int .i64 x.n, .string x.t, .bool x.b, .bool x.a])) : Own w B v (xs ++ [x]) := by
  unfold Own
  rw [cells_snoc, List.length_append]
  exact h

set_option maxHeartbeats 2000000 in
set_option maxRecDepth 100000 in
theorem l02Scan_any (s : ByteArray) (W : World) (hl : s.size ≤ 1048576) :
    Calls Tryd.prog 50 #[.string s] W (RetsT W (scanT s 0 [])) := by
  obtain ⟨i0, hi0, hz0, hz1, hz2⟩ := info_parts tokInfo
  have hb := PlainAid.get_bt s
  have hg0 : gapB s (-1) = true := gapB_out (.inl (by omega))
  go_enter Tryd.func50, Tryd.ntmps50
  go_wp2_with fail
  go_loopw [5, 6, 7] (fun v i b wr => ∃ (k : Nat) (xs : List Tok), k ≤ s.size ∧ i = .int .i64 k ∧ b = .bool (gapB s ((k : Int) - 1)) ∧ Hid (Own wr W.heap.size v xs) ∧ xs.length ≤ 120 ∧ Hid (scanT s k xs = scanT s 0 []) ∧
      Hid (∀ x, xs.getLast? = some x → x.a = true ∨ x.a = gapB s k) ∧ Hid (Below W.heap.size W wr)) (fun _ i _ _ => s.size - (intOf i).toNat)
  case atStart => exact ⟨0, [], Nat.zero_le _, rfl, by rw [show (((0 : Nat) : Int) - 1) = -1 by omega, hg0], World.ownsRow_lit (base := W.heap.size) (e := 46) (size := 5) W #[] 0 (Nat.le_refl _) (by decide) rfl, Nat.zero_le _, rfl, Lib.hid (fun x h => by simp at h), (Below.refl _ _).alloc (Nat.le_refl _) _⟩
  case round =>
    obtain ⟨k, xs, hk, rfl, rfl, HO, hx, HE, HX, HW⟩ := hrel
    have j0 : (0 : Int) ≤ (k : Int) := by omega
    by_cases hlt : k < s.size
    · have b0 := PlainAid.bt_nonneg s k
      have b1 := PlainAid.bt_le s k
      have hbk := hb k hlt
      have i3 : decide ((k : Int) < (s.size : Int)) = true := by simp; omega
      have i4 : (k : Int) < (s.size : Int) := by omega
      by_cases hsp : PlainAid.bt s k = 32
      · have d : (PlainAid.bt s k == 32) = true := by simpa using hsp
        have HG : Hid (gapB s k = true) := (gapB_in hlt).trans d
        have HS : Hid (scanT s k xs = scanT s (k + 1) xs) := scanT_blank hlt d
        have f5 : IntKind.i64.wrap ((k : Int) + 1) = (k : Int) + 1 := IntWalk.i64_in _ (by omega)
        generalize gapB s ((k : Int) - 1) = bl
        clear hsp
        go_wp2_with fail
        go_roundw
        case rel => exact ⟨k + 1, xs, by omega, by go_num, by rw [show (((k + 1 : Nat) : Int) - 1) = (k : Int) by omega, HG.out], HO, hx, by rw [← HS.out]; exact HE, Lib.hid (fun x h => .inl (by rcases HX.out x h with h | h; exact h; rw [h]; exact HG.out)), HW⟩
        case measure => simp [intOf]; omega
      · have d : (PlainAid.bt s k == 32) = false := by simpa using hsp
        have HB : Hid (blankEnd s k = k) := runEnd_stop fun _ => d
        have HC := Lib.hid (fun w => l02One_any s k w hlt hl)
        have HBl := Lib.hid (show gapB s ((k : Int) - 1) = gapB s ((k : Int) - 1) from rfl)
        obtain ⟨bl, hbl⟩ : ∃ bl, gapB s ((k : Int) - 1) = bl := ⟨_, rfl⟩
        have HBL := Lib.hid hbl
        rw [hbl]
        clear hsp hbl HBl
        have HZ : Hid (∀ o : Obj, Below wr.heap.size wr (wr.alloc o)) := fun o => (Below.refl _ _).alloc (Nat.le_refl _) _
        cases hone : oneT s k with
        | none =>
          have HN : Hid (oneE s k = OneRes 0 0 ⟨#[]⟩ (-1)) := oneE_none hone
          have HR : Hid (scanT s k xs = ([], k, 2)) := by have := scanT_none (xs := xs) (show blankEnd s k < s.size by rw [HB.out]; exact hlt) (by rw [HB.out]; exact hone); rw [HB.out] at this; exact this
          clear hone
          go_wp2_with (go_at_call 89; refine (HC.out _).mono ?_; rintro e w1 ⟨rfl, hb1⟩; rw [HN.out]; simp only [OneRes]; have HB1 : Hid (Below wr.heap.size wr w1) := hb1; clear hb1)
          refine bodyPost_ret (v := .tuple #[.slice (some ⟨w1.heap.size + 1, 0, none⟩) 0 0, .int .i64 (k : Int), .int .i64 2]) (by simp [results, Tryd.results50, go_sem]) rfl ?_
          rw [← HE.out, HR.out]
          refine retsT_nil ?_
          refine Below.trans HW.out (Below.mono (B := wr.heap.size) ?_ HW.out.size)
          exact below2 HB1.out (Nat.le_refl _) _ _
        | some r =>
          obtain ⟨ta, tn, tt, k'⟩ := r
          have hend := oneT_end hlt hone
          have HN : Hid (oneE s k = OneRes ta tn tt k') := oneE_some hone
          have hbe : blankEnd s k < s.size := by rw [HB.out]; exact hlt
          have hone' : oneT s (blankEnd s k) = some (ta, tn, tt, k') := by rw [HB.out]; exact hone
          have HLAST : Hid (gapB s ((k' : Int) - 1) = false) := oneT_last hlt hone
          have i5 : decide ((k' : Int) < 0) = false := by simp
          by_cases h120 : xs.length = 120
          · have HR : Hid (scanT s k xs = ([], k, 6)) := by have := scanT_full hbe hone' h120; rw [HB.out] at this; exact this
            obtain ⟨A, cap, rfl, hrow⟩ := own_row HO.out
            have i6 : ((xs.length : Int) == 120) = true := by rw [h120]; rfl
            clear hone hone' hrow hbe
            go_wp2_with (go_at_call 89; refine (HC.out _).mono ?_; rintro e w1 ⟨rfl, hb1⟩; rw [HN.out]; simp only [OneRes]; have HB1 : Hid (Below wr.heap.size wr w1) := hb1; clear hb1)
            refine bodyPost_ret (v := .tuple #[.slice (some ⟨w1.heap.size + 1, 0, none⟩) 0 0, .int .i64 (k : Int), .int .i64 6]) (by simp [results, Tryd.results50, go_sem]) rfl ?_
            rw [← HE.out, HR.out]
            refine retsT_nil ?_
            refine Below.trans HW.out (Below.mono (B := wr.heap.size) ?_ HW.out.size)
            exact below2 HB1.out (Nat.le_refl _) _ _
          · have HR : Hid (scanT s k xs = scanT s k' (xs ++ [⟨ta, tn, tt, gapB s ((k : Int) - 1), gapB s k'⟩])) := by have := scanT_step hbe hone' h120; rw [HB.out] at this; exact this
            rw [HBL.out] at HR
            obtain ⟨A, cap, rfl, hrow⟩ := own_row HO.out
            have i6 : ((xs.length : Int) == 120) = false := by simp; omega
            have z0 : (0 : Int) ≤ (k' : Int) := by omega
            clear hone hone' hrow hbe
            by_cases hks : k' = s.size
            · have i7 : ((k' : Int) == (s.size : Int)) = true := by rw [hks]; simp
              have HGT : Hid (gapB s k' = true) := gapB_out (.inr (by omega))
              go_wp2_with (first
                | (go_at_call 89; refine (HC.out _).mono ?_; rintro e w1 ⟨rfl, hb1⟩; rw [HN.out]; simp only [OneRes]; have HB1 : Hid (Below wr.heap.size wr w1) := hb1; clear hb1)
                | (at_builtin; refine wpList_append_own _ rfl _ _ 22 rfl W.heap.size 46 i0 (.agg #[.int .i64 0, .int .i64 0, .string ByteArray.empty, .bool false, .bool false]) 5 40 Tryd.underlying22 hi0 hz0 hz1 hz2 rfl (by decide) _ _ _ rfl (own_keep HO.out (below2 HB1.out (Nat.le_refl _) _ _)) ⟨w1.heap.size + 1, 0, none⟩ 1 1 [.int .i64 ta, .int .i64 tn, .string tt, .bool bl, .bool true] rfl rfl (cell_five_new2 _ _ _ _ _ _ _ _) (fun x hx => by simp at hx; rcases hx with rfl | rfl | rfl | rfl | rfl <;> rfl) (by unfold maxLen; omega) (by omega) (by have := HW.out.size; have := HB1.out.size; simp; omega) ?_; intro v1 w2 hown1 hgr1 _))
              go_roundw
              case rel =>
                refine ⟨k', xs ++ [⟨ta, tn, tt, bl, true⟩], hend.2, by rw [hks], by rw [HLAST.out], Lib.hid (own_snoc ⟨ta, tn, tt, bl, true⟩ hown1), by simp; omega, ?_, ?_, ?_⟩
                · exact Lib.hid (by rw [← HE.out, HR.out, HGT.out])
                · refine Lib.hid (fun x h => ?_)
                  simp only [List.getLast?_append, List.getLast?_singleton, Option.some_or, Option.some.injEq] at h
                  subst h
                  exact .inr HGT.out.symm
                · exact Lib.hid ((HW.out.trans ((below2 HB1.out (Nat.le_refl _) _ _).mono HW.out.size)).grown hgr1 (by have := HW.out.size; have := HB1.out.size; simp; omega) (own_ge5 HO.out))
              case measure => simp [intOf]; omega
            · have c0 := PlainAid.bt_nonneg s k'
              have c1 := PlainAid.bt_le s k'
              have hlt' : k' < s.size := by omega
              have i7 : ((k' : Int) == (s.size : Int)) = false := by simp; omega
              have i8 : (k' : Int) < (s.size : Int) := by omega
              have hbk' := hb k' hlt'
              have HGT0 : Hid (gapB s k' = (PlainAid.bt s k' == 32)) := gapB_in hlt'
              obtain ⟨ga, hga⟩ : ∃ ga, (PlainAid.bt s k' == 32) = ga := ⟨_, rfl⟩
              have HGT : Hid (gapB s k' = ga) := HGT0.out.trans hga
              go_wp2_with (first
                | (go_at_call 89; refine (HC.out _).mono ?_; rintro e w1 ⟨rfl, hb1⟩; rw [HN.out]; simp only [OneRes]; have HB1 : Hid (Below wr.heap.size wr w1) := hb1; clear hb1)
                | (at_builtin; refine wpList_append_own _ rfl _ _ 22 rfl W.heap.size 46 i0 (.agg #[.int .i64 0, .int .i64 0, .string ByteArray.empty, .bool false, .bool false]) 5 40 Tryd.underlying22 hi0 hz0 hz1 hz2 rfl (by decide) _ _ _ rfl (own_keep HO.out (below2 HB1.out (Nat.le_refl _) _ _)) ⟨w1.heap.size + 1, 0, none⟩ 1 1 [.int .i64 ta, .int .i64 tn, .string tt, .bool bl, .bool ga] rfl rfl (cell_five_new2 _ _ _ _ _ _ _ _) (fun x hx => by simp at hx; rcases hx with rfl | rfl | rfl | rfl | rfl <;> rfl) (by unfold maxLen; omega) (by omega) (by have := HW.out.size; have := HB1.out.size; simp; omega) ?_; intro v1 w2 hown1 hgr1 _))
              go_roundw
              case rel =>
                refine ⟨k', xs ++ [⟨ta, tn, tt, bl, ga⟩], hend.2, rfl, by rw [HLAST.out], Lib.hid (own_snoc ⟨ta, tn, tt, bl, ga⟩ hown1), by simp; omega, ?_, ?_, ?_⟩
                · exact Lib.hid (by rw [← HE.out, HR.out, HGT.out])
                · refine Lib.hid (fun x h => ?_)
                  simp only [List.getLast?_append, List.getLast?_singleton, Option.some_or, Option.some.injEq] at h
                  subst h
                  exact .inr HGT.out.symm
                · exact Lib.hid ((HW.out.trans ((below2 HB1.out (Nat.le_refl _) _ _).mono HW.out.size)).grown hgr1 (by have := HW.out.size; have := HB1.out.size; simp; omega) (own_ge5 HO.out))
              case measure => simp [intOf]; omega
    · have hk2 : k = s.size := by omega
      have HF : Hid (¬ blankEnd s k < s.size) := by show ¬ _; have := runEnd_ge (fun c => c == 32) s k; unfold blankEnd; omega
      have HR : Hid (scanT s 0 [] = (xs, 0, 0)) := HE.out.symm.trans (scanT_end HF.out)
      have i3 : decide ((k : Int) < (s.size : Int)) = false := by simp; omega
      have HGK : Hid (gapB s k = true) := gapB_out (.inr (by omega))
      obtain ⟨A, cap, rfl, hrow⟩ := own_row HO.out
      generalize gapB s ((k : Int) - 1) = bl
      by_cases hx0 : xs.length = 0
      · have i6 : decide (0 < (xs.length : Int)) = false := decide_eq_false (by omega)
        clear hrow
        go_wp2_with fail
        refine bodyPost_ret (v := .tuple #[.slice A xs.length cap, .int .i64 0, .int .i64 0]) (by simp [results, Tryd.results50, go_sem]) rfl ?_
        rw [HR.out]
        exact retsT_own HO.out HW.out
      · have i6 : decide (0 < (xs.length : Int)) = true := decide_eq_true (by omega)
        obtain ⟨g, cs, rfl, h1, h2, h3, h4, h5⟩ := hrow (by omega)
        obtain ⟨m, hm⟩ : ∃ m, xs.length = m + 1 := ⟨xs.length - 1, by omega⟩
        have l4 : m * 5 + 4 < cs.size := by omega
        obtain ⟨x, hxm⟩ : ∃ x, xs[m]? = some x := ⟨_, List.getElem?_eq_getElem (by omega)⟩
        have HXA : Hid (x.a = true) := by
          have h := HX.out x (by rw [List.getLast?_eq_getElem?, show xs.length - 1 = m by omega]; exact hxm)
          rw [HGK.out] at h
          exact h.elim id id
        have p4 := (h3.cell (m * 5 + 4)).trans (Array.getElem?_eq_getElem l4)
        have z4 := h3.frozen (m * 5 + 4)
        have HTB := Lib.hid h3
        have HH5 := Lib.hid h5
        have H4 := Lib.hid h4
        have HXM := Lib.hid hxm
        have G1 := Lib.hid h1
        have HML := Lib.hid hm
        obtain ⟨N, hN⟩ : ∃ N, xs.length = N := ⟨_, rfl⟩
        have HNN := Lib.hid hN
        have hNm : N = m + 1 := by omega
        rw [hN] at i6 ⊢
        have i9 : (N : Int) - 1 = (m : Int) := by omega
        have i7 : IntKind.i64.wrap (m : Int) = (m : Int) := IntWalk.i64_in _ (by omega)
        have i8 : (0 : Int) ≤ (m : Int) := by omega
        have i10 : (m : Int) < (N : Int) := by omega
        clear h3 h5 hxm hm hx0 h4 h1 h2 hN hNm hx
        go_wp2_with fail
        refine bodyPost_ret (v := .tuple #[.slice (some ⟨g, 0, none⟩) N cap, .int .i64 0, .int .i64 0]) (by simp [results, Tryd.results50, go_sem]) rfl ?_
        rw [HR.out, ← HNN.out]
        refine ⟨_, _, rfl, fun _ => ⟨g, _, rfl, G1.out, ?_, HTB.out.set_ (m * 5 + 4) (.bool true), by simpa using H4.out, fun j i y v hy hi => ?_⟩, HW.out.setCell G1.out _⟩
        · have := HTB.out.lt
          simpa [World.setCell] using this
        · have hi5 : i < 5 := (List.getElem?_eq_some_iff.1 hi).1
          by_cases e : j * 5 + i = m * 5 + 4
          · obtain rfl : j = m := by omega
            obtain rfl : i = 4 := by omega
            have hyx := HXM.out
            simp only at hy
            rw [hy, Option.some.injEq] at hyx
            subst hyx
            rw [Array.getElem?_setIfInBounds_self_of_lt (by have := H4.out; have := HML.out; omega)]
            have hv : Value.bool y.a = v := by simpa [Tok.vs] using hi
            rw [← hv, HXA.out]
          · rw [Array.getElem?_setIfInBounds_ne (fun h => e h.symm)]
            exact HH5.out j i y v hy hi
end Go.Proofs.YtdfikepfjdoooaaDoor
