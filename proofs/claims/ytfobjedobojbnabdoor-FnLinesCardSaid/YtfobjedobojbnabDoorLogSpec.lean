/- Contract: LogicalLines of the model. No condition. -/
import Derived.Test.YtfobjedobojbnabDoorLogImpl
import Derived.Deep.RegionHeld3
import Derived.Deep.AppendLies
namespace Go.Proofs.YtfobjedobojbnabDoor
open Go Go.RowKit

theorem ownL_lit0 {B : Nat} (w w1 : World) (hb : Below (w.alloc (.cells #[] 39)).heap.size (w.alloc (.cells #[] 39)) w1) (hB : B ≤ w.heap.size) : OwnL w1 B (.slice (some ⟨w.heap.size, 0, none⟩) 0 0) [] :=
  (World.ownsRow_lit (base := B) (e := 39) (size := 2) w #[] 0 hB (by decide) rfl).kept (grown_below hb none) (.inr (by simp [Value.ownBlock]))
theorem rowO_zero {w : World} {B C : Nat} {A : Option Addr} {xs : List ByteArray} (h : RowO w B C A xs) : RowO w 0 C A xs := fun hn => by
  obtain ⟨g, cs, e, _, h2⟩ := h hn
  exact ⟨g, cs, e, Nat.zero_le _, h2⟩
/-- A row of strings stands while a row of lines of one's own grows. -/
theorem rowO_keep {w w' : World} {B B' C : Nat} {A : Option Addr} {xs : List ByteArray} {v : Value} {ys : List Lin} (h : RowO w B C A xs) (ho : OwnL w B' v ys) (hg : w.grownBy w' v.ownBlock) : RowO w' B C A xs := fun hn => by
  obtain ⟨g, cs, e, h1, h2, h3, h4, h5⟩ := h hn
  exact ⟨g, cs, e, h1, h2, (hg.block g h3.lt (fun e' => ownL_ne ho h3 e'.symm)).trans h3, h4, h5⟩
theorem rowO_alloc {w : World} {B C : Nat} {A : Option Addr} {xs : List ByteArray} (h : RowO w B C A xs) (o : Obj) : RowO (w.alloc o) B C A xs := fun hn => by
  obtain ⟨g, cs, e, h1, h2, h3, h4, h5⟩ := h hn
  exact ⟨g, cs, e, h1, h2, h3.below ((Below.refl _ _).alloc (Nat.le_refl _) o) h3.lt, h4, h5⟩

set_option maxHeartbeats 4000000 in
set_option maxRecDepth 100000 in
theorem spec_LogicalLines_any (s : ByteArray) (W : World) (hs : s.size ≤ maxLen) :
    Calls Tryd.prog 7 #[.string s] W (RetsG W (logG s)) := by
  obtain ⟨i0, hi0, hz0, hz1, hz2⟩ := info_parts linInfo
  obtain ⟨b, hsb⟩ : ∃ b, sourceB s = b := ⟨_, rfl⟩
  have HV : Hid (Calls Tryd.prog 24 #[.string s] W fun e w' => e = .returned (.bool b) ∧ Below W.heap.size W w') := by
    show Calls _ _ _ _ _
    have := spec_ValidSource_any s W hs
    rwa [hsb] at this
  clear hs
  cases b
  · have e1 : logG s = ([], 0, 1) := by simp [logG, hsb]
    rw [e1]
    clear hsb e1
    go_enter Tryd.func7, Tryd.ntmps7
    go_wp2_with (go_at_call 24; refine HV.out.mono ?_; rintro e w1 ⟨rfl, hb⟩; have B1 := Lib.hid hb; clear hb)
    refine bodyPost_ret (v := .tuple #[.slice (some ⟨w1.heap.size, 0, none⟩) 0 0, .int .i64 0, .int .i64 1]) (by simp [results, Tryd.results7, go_sem]) rfl ?_
    exact ⟨_, 0, rfl, fun h => absurd h (Nat.lt_irrefl 0), B1.out.alloc B1.out.size _⟩
  · obtain ⟨h4, h120⟩ := source_facts hsb
    obtain ⟨hz, hby, hln⟩ := comb_facts hsb
    have hl9 := logT_length (combT (linesT s) 0 []).1 []
    have HI : Hid (∀ w, Calls Tryd.prog 25 #[.string s] w (RetsO w (linesT s))) := fun w => spec_lines_o s w (by omega)
    have HG0 : Hid ((combT (linesT s) 0 []).2 = 0 → logG s = (logT (combT (linesT s) 0 []).1 [], 0, 0)) := fun h => by simp [logG, hsb, h]
    have HG1 : Hid ((combT (linesT s) 0 []).2 ≠ 0 → logG s = ([], (combT (linesT s) 0 []).2, 2)) := fun h => by simp [logG, hsb, h]
    clear hsb
    generalize linesT s = ls at h120 hz hby hln hl9 HI HG0 HG1
    generalize logG s = G at HG0 HG1 ⊢
    have HSZ := Lib.hid hz
    have HBN : Hid (bytesL (combT ls 0 []).1 ≤ 480000) := hby
    have HLN : Hid ((combT ls 0 []).1.length ≤ 120) := hln
    have HL9 : Hid ((logT (combT ls 0 []).1 []).length ≤ 1048576) := by show _ ≤ _; simp only [List.length_nil] at hl9; omega
    clear hz h4 hby hln hl9
    go_enter Tryd.func7, Tryd.ntmps7
    go_wp2_with (first
        | (go_at_call 24; refine HV.out.mono ?_; rintro e w1 ⟨rfl, hb⟩; have B1 := Lib.hid hb; clear hb)
        | (go_at_call 25; refine (HI.out _).mono ?_; rintro e w2 ⟨A2, c2, rfl, hr, hb⟩; have R2 := Lib.hid (rowO_zero hr); have O2 := Lib.hid (ownL_lit0 (B := W.heap.size) _ _ hb B1.out.size); have B2 := Lib.hid ((B1.out.alloc B1.out.size _).trans (hb.mono (by have := B1.out.size; simp; omega))); clear hb hr))
    go_loopw [5, 7] (fun v i wr => ∃ (k : Nat) (acc : List Lin), k ≤ ls.length ∧ i = .int .i64 k ∧ Hid (OwnL wr W.heap.size v acc) ∧ acc.length ≤ k ∧ Hid (bytesL acc ≤ 4000 * k) ∧ Hid (combT (ls.drop k) k acc = combT ls 0 []) ∧ Hid (Below W.heap.size W wr) ∧ Hid (RowO wr 0 w2.heap.size A2 ls)) (fun _ i _ => ls.length - (intOf i).toNat)
    case atStart => exact ⟨0, [], Nat.zero_le _, rfl, O2, Nat.zero_le _, Nat.zero_le _, rfl, B2, R2⟩
    case round =>
      obtain ⟨k, acc, hk, rfl, HO, hx, HBY, HE, HW, HROW⟩ := hrel
      by_cases hlt : k < ls.length
      · have hl : Hid (k < ls.length) := hlt
        obtain ⟨g, cells, rfl, _, hg, hsb, hcs, hxs⟩ := HROW.out (by omega)
        have q0 := (hsb.cell k).trans (hxs k _ (List.getElem?_eq_getElem hl.out))
        clear hsb hcs hxs
        have hlk : ls[k]? = some (ls[k]'hl.out) := List.getElem?_eq_getElem hl.out
        generalize ls[k]'hl.out = t at q0 hlk
        have HLK := Lib.hid hlk
        have hts := HSZ.out k t hlk
        have HTM : Hid (t.size ≤ maxLen) := by show _ ≤ _; unfold maxLen; omega
        have b0 : (0 : Int) ≤ (k : Int) := by omega
        have b1 : (k : Int) < (ls.length : Int) := by omega
        obtain ⟨A', c', rfl, hrow⟩ := ownL_row HO.out
        clear hlk hrow
        obtain ⟨p, hp⟩ : ∃ p, blankB t = p := ⟨_, rfl⟩
        obtain ⟨q, hq⟩ : ∃ q, (t.size != 0 && PlainAid.bt t 0 == 42) = q := ⟨_, rfl⟩
        obtain ⟨r, hr⟩ : ∃ r, (t.size != 0 && PlainAid.bt t 0 == 43) = r := ⟨_, rfl⟩
        have HP := Lib.hid hp
        have HQ := Lib.hid hq
        have HRR := Lib.hid hr
        have hskip : skipB t = (p || q) := by unfold skipB; rw [hp, hq]
        have HSK := Lib.hid hskip
        have HCT : Hid (contB t = r) := Lib.hid hr
        clear hp hq hr hskip
        cases p
        · cases q
          · cases r
            · have HN : Hid (combT (ls.drop k) k acc = combT (ls.drop (k + 1)) (k + 1) (acc ++ [⟨((k + 1 : Nat) : Int), t⟩])) := combT_new HLK.out HSK.out HCT.out
              have HT0 : Hid (t.size ≤ 4000) := Lib.hid hts
              go_wp2_with (first | (go_at_call 26; refine (spec_IsBlankLine_any _ _ HTM.out).mono ?_; rintro e w' ⟨rfl, rfl⟩; rw [HP.out]) | (go_at_call 27; refine (spec_IsComment_any _ _ HTM.out).mono ?_; rintro e w' ⟨rfl, rfl⟩; rw [HQ.out]) | (go_at_call 28; refine (spec_IsContinuation_any _ _ HTM.out).mono ?_; rintro e w' ⟨rfl, rfl⟩; rw [HRR.out]) | (at_builtin; refine wpList_append_own _ rfl _ _ 22 rfl W.heap.size 39 i0 (.agg #[.int .i64 0, .string ByteArray.empty]) 2 24 Tryd.underlying22 hi0 hz0 hz1 hz2 rfl (by decide) _ _ _ rfl (HO.out.alloc _) ⟨wr.heap.size, 0, none⟩ 1 1 [.int .i64 ((k : Int) + 1), .string t] rfl rfl (cell_two_new _ _ _ _) (fun x hx => by simp at hx; rcases hx with rfl | rfl <;> rfl) (by unfold maxLen; omega) (by omega) (by have := HW.out.size; simp; omega) ?_; intro v1 w1 hown1 hgr1 _))
              go_roundw
              case rel =>
                refine ⟨k + 1, acc ++ [⟨((k + 1 : Nat) : Int), t⟩], by omega, by go_num, Lib.hid (ownL_snoc ⟨((k + 1 : Nat) : Int), t⟩ hown1), by simp; omega, ?_, by show _ = _; rw [← HE.out, HN.out], ?_⟩
                · show _ ≤ _
                  rw [bytesL_append]
                  have := HBY.out
                  have := HT0.out
                  simp only [bytesL]
                  omega
                · exact ⟨Lib.hid ((HW.out.alloc HW.out.size _).grown hgr1 (by have := HW.out.size; simp; omega) (fun b hb => (HO.out.lt b hb).1)), Lib.hid (rowO_keep (rowO_alloc HROW.out _) (HO.out.alloc _) hgr1)⟩
              case measure => simp [intOf]; omega
            · by_cases h0 : acc.length = 0
              · have HN : Hid (combT (ls.drop k) k acc = ([], k + 1)) := combT_fault HLK.out HSK.out HCT.out h0
                go_wp2_with (first | (go_at_call 26; refine (spec_IsBlankLine_any _ _ HTM.out).mono ?_; rintro e w' ⟨rfl, rfl⟩; rw [HP.out]) | (go_at_call 27; refine (spec_IsComment_any _ _ HTM.out).mono ?_; rintro e w' ⟨rfl, rfl⟩; rw [HQ.out]) | (go_at_call 28; refine (spec_IsContinuation_any _ _ HTM.out).mono ?_; rintro e w' ⟨rfl, rfl⟩; rw [HRR.out]))
                have hft : combT ls 0 [] = ([], k + 1) := HE.out.symm.trans HN.out
                have hG := HG1.out (by rw [hft]; exact Nat.succ_ne_zero k)
                rw [hft] at hG
                refine bodyPost_ret (v := .tuple #[.slice (some ⟨wr.heap.size, 0, none⟩) 0 0, .int .i64 ((k : Int) + 1), .int .i64 2]) (by simp [results, Tryd.results7, go_sem]) rfl ?_
                rw [hG]
                exact ⟨_, 0, rfl, fun h => absurd h (Nat.lt_irrefl 0), HW.out.alloc HW.out.size _⟩
              · have HN : Hid (combT (ls.drop k) k acc = combT (ls.drop (k + 1)) (k + 1) (extL acc t)) := combT_more HLK.out HSK.out HCT.out h0
                obtain ⟨m, hm⟩ : ∃ m, acc.length = m + 1 := ⟨acc.length - 1, by omega⟩
                obtain ⟨A'', c'', hv, hrow⟩ := ownL_row HO.out
                obtain ⟨rfl, rfl⟩ : A' = A'' ∧ c' = c'' := by injection hv; exact ⟨by assumption, by assumption⟩
                obtain ⟨gl, cs, rfl, hgl, hgl2, hlb, hcs, hh⟩ := hrow (by omega)
                obtain ⟨x, hx1⟩ : ∃ x, acc[m]? = some x := ⟨acc[m]'(by omega), List.getElem?_eq_getElem _⟩
                have c1 := (hh.cell2 hlb hx1).2
                have f1 := hlb.frozen (m * 2 + 1)
                have hxt : x.t.size ≤ 4000 * 121 := by have := bytesL_at hx1; have := HBY.out; omega
                have ht0 : 0 < t.size := by
                  have h := HCT.out
                  unfold contB at h
                  simp only [Bool.and_eq_true, bne_iff_ne] at h
                  omega
                have i1 : (1 : Int) ≤ (t.size : Int) := by omega
                have i2 : (0 : Int) ≤ (m : Int) := by omega
                have i3 : (m : Int) < (m : Int) + 1 := by omega
                have i4 : (m : Int) < ((m + 1 : Nat) : Int) := by omega
                have i5 : ¬ ((m : Int) < 0) := by omega
                have i6 : ¬ (9223372036854775807 < 1 + (t.size - 1)) := by omega
                have i7 : ¬ (9223372036854775807 < x.t.size + (1 + (t.size - 1))) := by omega
                have HX := Lib.hid hx1
                have HM := Lib.hid hm
                have hmk : m + 1 ≤ k := by omega
                have HM0 := Lib.hid h0
                have HGL : Hid (W.heap.size ≤ gl ∧ gl < wr.heap.size) := Lib.hid ⟨hgl, hgl2⟩
                rw [hm] at HO ⊢
                clear hv hrow hlb hcs hh hx1 h0 hm hgl hgl2
                go_wp2_with (first | (go_at_call 26; refine (spec_IsBlankLine_any _ _ HTM.out).mono ?_; rintro e w' ⟨rfl, rfl⟩; rw [HP.out]) | (go_at_call 27; refine (spec_IsComment_any _ _ HTM.out).mono ?_; rintro e w' ⟨rfl, rfl⟩; rw [HQ.out]) | (go_at_call 28; refine (spec_IsContinuation_any _ _ HTM.out).mono ?_; rintro e w' ⟨rfl, rfl⟩; rw [HRR.out]))
                go_still_tail 11, (by kernel_rfl)
                change wpList _ _ _ _ _ wr.drew
                have HO1 : Hid (OwnL wr.drew W.heap.size (.slice (some ⟨gl, 0, none⟩) (m + 1) c') acc) := HO.out
                have HW1 : Hid (Below W.heap.size W wr.drew) := HW.out.drew
                have HGL1 : Hid (W.heap.size ≤ gl ∧ gl < wr.drew.heap.size) := HGL.out
                have c2 : wr.drew.cell? ⟨gl, m * 2 + 1, none⟩ = some (.string x.t) := c1
                have f2 : wr.drew.frozen? ⟨gl, m * 2 + 1, none⟩ = false := f1
                have HR1 : Hid (RowO wr.drew 0 w2.heap.size (some ⟨g, 0, none⟩) ls) := HROW.out
                clear c1 f1 HO HW HGL q0 HROW
                generalize wr.drew = w4 at HO1 HW1 HGL1 c2 f2 HR1 ⊢
                go_wp2_with fail
                go_roundw
                case rel =>
                  have hx9 : acc[acc.length - 1]? = some x := by rw [HM.out]; exact HX.out
                  have ho9 := HO1.out
                  rw [← HM.out] at ho9
                  obtain ⟨e1, e2⟩ := ownL_ext t ho9 hx9
                  rw [HM.out, Nat.add_sub_cancel] at e1 e2
                  refine ⟨k + 1, extL acc t, by omega, by go_num, Lib.hid e1, by rw [extL_length]; omega, ?_, by show _ = _; rw [← HE.out, HN.out], Lib.hid (HW1.out.grown e2 (by have := HW1.out.size; omega) (fun b hb => by cases hb; exact HGL1.out.1)), Lib.hid (rowO_keep HR1.out HO1.out e2)⟩
                  show _ ≤ _
                  rw [extL_bytes HM0.out (by omega)]
                  have := HBY.out
                  omega
                case measure => simp [intOf]; omega
          · have HN : Hid (combT (ls.drop k) k acc = combT (ls.drop (k + 1)) (k + 1) acc) := combT_skip HLK.out HSK.out
            go_wp2_with (first | (go_at_call 26; refine (spec_IsBlankLine_any _ _ HTM.out).mono ?_; rintro e w' ⟨rfl, rfl⟩; rw [HP.out]) | (go_at_call 27; refine (spec_IsComment_any _ _ HTM.out).mono ?_; rintro e w' ⟨rfl, rfl⟩; rw [HQ.out]))
            go_roundw
            case rel => exact ⟨k + 1, acc, by omega, by go_num, HO, by omega, by have := HBY.out; show _ ≤ _; omega, by show _ = _; rw [← HE.out, HN.out], HW, HROW⟩
            case measure => simp [intOf]; omega
        · have HN : Hid (combT (ls.drop k) k acc = combT (ls.drop (k + 1)) (k + 1) acc) := combT_skip HLK.out HSK.out
          go_wp2_with (go_at_call 26; refine (spec_IsBlankLine_any _ _ HTM.out).mono ?_; rintro e w' ⟨rfl, rfl⟩; rw [HP.out])
          go_roundw
          case rel => exact ⟨k + 1, acc, by omega, by go_num, HO, by omega, by have := HBY.out; show _ ≤ _; omega, by show _ = _; rw [← HE.out, HN.out], HW, HROW⟩
          case measure => simp [intOf]; omega
      · have hft : combT ls 0 [] = (acc, 0) := HE.out.symm.trans (combT_end (by omega))
        have hG := HG0.out (by rw [hft])
        have hbn := HBN.out
        have hln := HLN.out
        have hl9 := HL9.out
        rw [hft] at hG hbn hln hl9
        dsimp only at hG hbn hln hl9
        subst hG
        have HBA : Hid (bytesL acc ≤ 480000) := hbn
        have HL9' : Hid ((logT acc []).length ≤ 1048576) := hl9
        obtain ⟨A', c', rfl, hrow⟩ := ownL_row HO.out
        have RJ := Lib.hid hrow.lr
        have SZ : Hid (W.heap.size ≤ wr.heap.size) := HW.out.size
        clear hrow hft hbn hl9 HBY HE HROW HO HG0 HG1 HBN HLN HL9 HI HV
        go_wp2_with fail
        go_loopw [10, 11] (fun v i wx => ∃ (j : Nat) (out : List Lin), j ≤ acc.length ∧ i = .int .i64 j ∧ Hid (OwnL wx wr.heap.size v out) ∧ Hid (logT (acc.drop j) out = logT acc []) ∧ Hid (Below wr.heap.size wr wx)) (fun _ i _ => acc.length - (intOf i).toNat)
        case atStart => exact ⟨0, [], Nat.zero_le _, rfl, World.ownsRow_lit wr #[] 0 (Nat.le_refl _) (by decide) rfl, rfl, (Below.refl _ _).alloc (Nat.le_refl _) _⟩
        case round =>
          rename World => wx
          obtain ⟨j, out, hj, rfl, HO, HE, HX⟩ := hrel
          by_cases hlj : j < acc.length
          · have hl : Hid (j < acc.length) := hlj
            obtain ⟨g, rfl, hg, hc⟩ := RJ.out.at_ hlj hl.out
            have hxk : acc[j]? = some (acc[j]'hl.out) := List.getElem?_eq_getElem hl.out
            generalize acc[j]'hl.out = x at hxk hc
            have hbx := bytesL_at hxk
            have hx1 : x.t.size ≤ 1048576 := by have := HBA.out; omega
            have hnx := logT_next (acc := out) hxk
            have hge := logT_ge (acc.drop (j + 1)) (stmL x out)
            rw [← hnx, HE.out] at hge
            have HN : Hid ((stmL x out).length ≤ 1048576) := Nat.le_trans hge HL9'.out
            have HNX : Hid (logT acc [] = logT (acc.drop (j + 1)) (stmL x out)) := HE.out.symm.trans hnx
            obtain ⟨xn, xt⟩ := x
            have HC : Hid (Cell2 wr g j ⟨xn, xt⟩) := hc
            have HGJ : Hid (g < wr.heap.size) := hg
            have hsm : stmL ⟨xn, xt⟩ out = out ++ partL xn (stm xt 0 0 0) := rfl
            rw [hsm] at HN HNX
            dsimp only at hx1
            have HSP : Hid (∀ w, Calls Tryd.prog 29 #[.string xt] w (Rets w (stm xt 0 0 0))) := fun w => spec_SplitStatements_any xt w hx1
            have hpl : (stm xt 0 0 0).length ≤ 1048577 := by have := stm_length xt xt.size 0 0 0 (by omega); omega
            have hpz : ∀ (q : Nat) (p : ByteArray), (stm xt 0 0 0)[q]? = some p → p.size ≤ maxLen := fun q p h => by
              have := stm_sizes xt xt.size 0 0 0 (by omega) p (List.mem_of_getElem? h)
              unfold maxLen
              omega
            have HPS0 := Lib.hid hpz
            obtain ⟨q0, q1⟩ := hc.below HX.out hg
            dsimp only at q0 q1
            have b0 : (0 : Int) ≤ (j : Int) := by omega
            have b1 : (j : Int) < (acc.length : Int) := by omega
            clear hbx hnx hge hsm hxk hc hpz hx1 hg
            generalize stm xt 0 0 0 = ps at HN HNX HSP hpl HPS0
            go_wp2_with (go_at_call 29; refine (HSP.out _).mono ?_; rintro e w5 ⟨gp, cp, cells, rfl, hgp, hsb, hcs, hcap, hps, hb⟩; have HS5 := Lib.hid hsb; have HPS := Lib.hid hps; have HO5 := Lib.hid (ownL_keep HO.out hb); have HX5 := Lib.hid (HX.out.trans (hb.mono HX.out.size)); clear hgp hsb hcs hps hb q0 q1)
            go_loopw [10, 13] (fun v i wy => ∃ (q : Nat) (ys : List Lin), q ≤ ps.length ∧ i = .int .i64 q ∧ Hid (OwnL wy wr.heap.size v ys) ∧ Hid (ys ++ partL xn (ps.drop q) = out ++ partL xn ps) ∧ Hid (SB wy gp cells) ∧ Hid (Below wr.heap.size wr wy)) (fun _ i _ => ps.length - (intOf i).toNat)
            case atStart => exact ⟨0, out, Nat.zero_le _, rfl, HO5, rfl, HS5, HX5⟩
            case round =>
              clear HO HO5 HS5 HX5 HX
              obtain ⟨q, ys, hq, rfl, HO, HEQ, HSQ, HXQ⟩ := hrel
              rename World => wy
              by_cases hlq : q < ps.length
              · have hpk : ps[q]? = some (ps[q]'hlq) := List.getElem?_eq_getElem hlq
                generalize ps[q]'hlq = p at hpk
                have p0 := (HSQ.out.cell q).trans (HPS.out q p hpk)
                have HPZ : Hid (p.size ≤ maxLen) := HPS0.out q p hpk
                obtain ⟨c0, c1⟩ := HC.out.below HXQ.out HGJ.out
                dsimp only at c0 c1
                have hnq := part_next (n := xn) hpk
                have a0 : (0 : Int) ≤ (q : Int) := by omega
                have a1 : (q : Int) < (ps.length : Int) := by omega
                have hyl : ys.length ≤ 1048576 := by
                  have h1 := congrArg List.length HEQ.out
                  have h2 := HN.out
                  rw [List.length_append] at h1
                  omega
                obtain ⟨b, hbl⟩ : ∃ b, blankB p = b := ⟨_, rfl⟩
                rw [hbl] at hnq
                have HBL := Lib.hid hbl
                have HNQ := Lib.hid hnq
                clear hbl hpk hnq
                obtain ⟨A9, c9, rfl, hrow⟩ := ownL_row HO.out
                clear hrow
                cases b
                · go_wp2_with (go_at_call 26; refine (spec_IsBlankLine_any _ _ HPZ.out).mono ?_; rintro e w' ⟨rfl, rfl⟩; rw [HBL.out])
                  have N0 : Hid (some g ≠ (Value.slice A9 ys.length c9).ownBlock) := fun e' => by have := (HO.out.lt g e'.symm).1; have := HGJ.out; omega
                  have N1 : Hid (some gp ≠ (Value.slice A9 ys.length c9).ownBlock) := fun e' => ownL_ne HO.out HSQ.out e'.symm
                  have G0 : Hid (g < wy.heap.size) := Nat.lt_of_lt_of_le HGJ.out HXQ.out.size
                  have G1 : Hid (gp < wy.heap.size) := HSQ.out.lt
                  have HB0 : Hid (wr.heap.size ≤ wy.heap.size) := HXQ.out.size
                  clear c1
                  go_region_held3 (fun w' => w'.cell? ⟨g, j * 2, none⟩ = some (.int .i64 xn) ∧ w'.cell? ⟨gp, q, none⟩ = some (.string p))
                    (first | (exact ⟨c0, p0⟩) | go_keep | (go_split_ands; exact ⟨(hgr1.cell_far ⟨g, j * 2, none⟩ (by have := G0.out; simp; omega) N0.out).trans (by assumption), (hgr1.cell_far ⟨gp, q, none⟩ (by have := G1.out; simp; omega) N1.out).trans (by assumption)⟩))
                    ((refine step_append_lies _ (by rfl) _ _ _ (by rfl) wr.heap.size 39 i0 (.agg #[.int .i64 0, .string ByteArray.empty]) 2 24 Tryd.underlying22 hi0 hz0 hz1 hz2 (by rfl) (by decide) (.slice A9 ys.length c9) ys.length (cellsL ys) (by rfl) ((show OwnL wy.drew wr.heap.size _ _ from HO.out).alloc _) ⟨wy.heap.size, 0, none⟩ 1 1 [.int .i64 xn, .string p] (by rfl) (by rfl) (cell_two_new wy.drew _ _ _) (fun x hx => by simp at hx; rcases hx with rfl | rfl <;> rfl) (by decide) (by unfold maxLen; omega) (by omega) (by have := HB0.out; simp; omega) (wy.heap.size + 1) (by simp) ?_; intro g9 cap9 w7 hown1 hgr1 hat hlt9))
                  go_wp2_with fail
                  go_roundw
                  case rel =>
                    refine ⟨q + 1, ys ++ [⟨xn, p⟩], by omega, by go_num, Lib.hid (ownL_snoc ⟨xn, p⟩ hown1), ?_, ?_, ?_⟩
                    · show _ = _
                      rw [← HEQ.out, HNQ.out, List.append_assoc]
                      rfl
                    · exact Lib.hid ((hgr1.block gp (by have := G1.out; simp; omega) N1.out).trans (show SB (wy.alloc (.cells #[.int .i64 xn, .string p] 39)) gp cells from HSQ.out.below ((Below.refl _ _).alloc (Nat.le_refl _) _) HSQ.out.lt))
                    · exact Lib.hid ((HXQ.out.alloc HB0.out _).drew.grown hgr1 (by have := HB0.out; simp; omega) (fun b hb => (HO.out.lt b hb).1))
                  case measure => simp [intOf]; omega
                · go_wp2_with (go_at_call 26; refine (spec_IsBlankLine_any _ _ HPZ.out).mono ?_; rintro e w' ⟨rfl, rfl⟩; rw [HBL.out])
                  go_roundw
                  case rel => exact ⟨q + 1, ys, by omega, by go_num, HO, by show _ = _; rw [← HEQ.out, HNQ.out]; rfl, HSQ, HXQ⟩
                  case measure => simp [intOf]; omega
              · have hd : ps.drop q = [] := List.drop_eq_nil_of_le (by omega)
                have HY : Hid (ys = out ++ partL xn ps) := by
                  show _ = _
                  rw [← HEQ.out, hd]
                  simp [partL]
                clear hd
                go_wp2_with fail
                go_roundw
                case rel => exact ⟨j + 1, ys, by omega, by go_num, HO, by show _ = _; rw [HY.out]; exact HNX.out.symm, HXQ⟩
                case measure => simp [intOf]; omega
          · have hd : acc.drop j = [] := List.drop_eq_nil_of_le (by omega)
            have HR : Hid (out = logT acc []) := by
              show _ = _
              rw [← HE.out, hd, logT]
            clear hd
            obtain ⟨A9, c9, rfl, hrow⟩ := ownL_row HO.out
            have HROW := Lib.hid hrow
            clear hrow
            go_wp2_with fail
            refine bodyPost_ret (v := .tuple #[.slice A9 out.length c9, .int .i64 0, .int .i64 0]) (by simp [results, Tryd.results7, go_sem]) rfl ?_
            rw [← HR.out]
            refine ⟨A9, c9, rfl, fun hn => ?_, HW.out.trans (HX.out.mono HW.out.size)⟩
            obtain ⟨g, cells, e, h1, h2⟩ := HROW.out hn
            exact ⟨g, cells, e, Nat.le_trans HW.out.size h1, h2⟩
end Go.Proofs.YtfobjedobojbnabDoor
