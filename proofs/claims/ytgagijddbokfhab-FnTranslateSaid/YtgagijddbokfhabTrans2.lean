/- Contracts: TranslateText of the program and of the model. Condition: the strings are not longer than the law lets them be. -/
import Derived.Test.YtgagijddbokfhabTrans
import Derived.WalkSmall
namespace Go.Proofs.Ytgagijddbokfhab
open Go Go.RowKit

theorem imgK_range (f t : ByteArray) (k b : Nat) (hb : b < 256) : 0 ≤ imgK f t k b ∧ imgK f t k b ≤ 255 := by
  induction k with
  | zero => unfold imgK; omega
  | succ k ih =>
    unfold imgK
    split
    · exact ⟨PlainAid.bt_nonneg _ _, PlainAid.bt_le _ _⟩
    · exact ih
/-- What TranslateText makes of s. -/
def trE (s f t : ByteArray) : ByteArray := ⟨(s.data.toList.map fun b => UInt8.ofNat (imgK f t f.size b.toNat).toNat).toArray⟩
theorem trE_size (s f t : ByteArray) : (trE s f t).size = s.size := by unfold trE; rw [size_mk, List.length_map, Lib.size_eq]
theorem trE_bt (s f t : ByteArray) (j : Nat) (h : j < s.size) : PlainAid.bt (trE s f t) j = imgK f t f.size (PlainAid.bt s j).toNat := by
  have hl : j < s.data.toList.length := by rw [← Lib.size_eq]; exact h
  rw [trE, bt_mk _ j (by rw [List.length_map]; exact hl), List.getElem_map, bt_data s j hl]
  have hlt := s.data.toList[j].toNat_lt
  obtain ⟨h0, h1⟩ := imgK_range f t f.size s.data.toList[j].toNat hlt
  have e : (imgK f t f.size s.data.toList[j].toNat).toNat < 256 := by omega
  rw [UInt8.toNat_ofNat', Nat.mod_eq_of_lt e, Int.toNat_natCast]
  omega
/-- Whether the lists are such that TranslateText can. -/
def trOk (f t : ByteArray) : Bool := !(f.size == 0) && (f.size == t.size)
def trS (s f t : ByteArray) : ByteArray := if trOk f t = true then trE s f t else ⟨#[]⟩

set_option maxHeartbeats 2000000 in
theorem impl_TranslateText_no (s f t : ByteArray) (W : World) (hf : f.size ≤ 1048576) (ht : t.size ≤ 1048576) (h : trOk f t = false) :
    Calls Try.prog 10 #[.string s, .string f, .string t] W fun e w' => e = .returned (.tuple #[.string ⟨#[]⟩, .bool false]) ∧ W = w' := by
  unfold trOk at h
  by_cases h0 : f.size = 0
  · have e1 := nil_of_size h0
    have e2 := isEmpty_of_size h0
    clear h0 h
    go_enter Try.func10, Try.ntmps10
    go_wp2_with fail
    go_ret2
    exact ⟨rfl, rfl⟩
  · have hp : 0 < f.size := by omega
    have e1 := ne_nil_of_size hp
    have e2 := not_isEmpty_of_size hp
    have hne : ¬ (f.size : Int) = (t.size : Int) := by
      intro e
      have hb0 : (f.size == 0) = false := by simpa using h0
      have hb1 : (f.size == t.size) = true := by simp; omega
      rw [hb0, hb1] at h
      simp at h
    have hne2 : ((f.size : Int) != (t.size : Int)) = true := by simpa using hne
    clear h0 h
    go_enter Try.func10, Try.ntmps10
    go_wp2_with fail
    go_ret2
    exact ⟨rfl, rfl⟩
set_option maxHeartbeats 2000000 in
theorem spec_TranslateText_no (s f t : ByteArray) (W : World) (hf : f.size ≤ 1048576) (ht : t.size ≤ 1048576) (h : trOk f t = false) :
    Calls Try.prog 9 #[.string s, .string f, .string t] W fun e w' => e = .returned (.tuple #[.string ⟨#[]⟩, .bool false]) ∧ W = w' := by
  unfold trOk at h
  by_cases h0 : f.size = 0
  · have e1 := nil_of_size h0
    have e2 := isEmpty_of_size h0
    clear h0 h
    go_enter Try.func9, Try.ntmps9
    go_wp2_with fail
    go_ret2
    exact ⟨rfl, rfl⟩
  · have hp : 0 < f.size := by omega
    have e1 := ne_nil_of_size hp
    have e2 := not_isEmpty_of_size hp
    have hne : ¬ (f.size : Int) = (t.size : Int) := by
      intro e
      have hb0 : (f.size == 0) = false := by simpa using h0
      have hb1 : (f.size == t.size) = true := by simp; omega
      rw [hb0, hb1] at h
      simp at h
    have hne2 : ((f.size : Int) != (t.size : Int)) = true := by simpa using hne
    clear h0 h
    go_enter Try.func9, Try.ntmps9
    go_wp2_with fail
    go_ret2
    exact ⟨rfl, rfl⟩

set_option maxHeartbeats 4000000 in
set_option maxRecDepth 100000 in
theorem impl_TranslateText_yes (s f t : ByteArray) (W : World) (hs : s.size ≤ 1048576) (hf : f.size ≤ 1048576) (h0 : 0 < f.size) (ht : f.size = t.size) :
    Calls Try.prog 10 #[.string s, .string f, .string t] W fun e w' => e = .returned (.tuple #[.string (trE s f t), .bool true]) ∧ Below W.heap.size W w' := by
  have e1 := ne_nil_of_size h0
  have e2 := not_isEmpty_of_size h0
  have e3 : (f.size : Int) = (t.size : Int) := by omega
  have e4 : ((f.size : Int) != (t.size : Int)) = false := by simp [e3]
  have HF := Lib.hid (fun w => byteImages_any f t w hf ht)
  have HG := Lib.hid (fun j (h : j < s.size) => trE_bt s f t j h)
  have HGS := Lib.hid (trE_size s f t)
  have HIR := Lib.hid (fun b => imgK_range f t f.size b)
  generalize trE s f t = Y at HG HGS ⊢
  generalize imgK f t f.size = I at HF HG HIR
  have hz := zero256
  have hi : (Try.prog.info? 34).map (·.size) = some 256 := by kernel_rfl
  clear h0
  go_enter Try.func10, Try.ntmps10
  go_wp2_with (first
    | (go_at_call 16; refine (HF.out _).mono ?_; rintro e w1 ⟨rfl, hb⟩; have HB1 := Lib.hid hb; clear hb)
    | (refine wpList_store_row rfl 34 _ _ rfl w1.heap.size (tab I) rfl rfl 34 (tab fun _ => 0) (RB.new w1 _) (by rw [tab_size]; exact hi) (by rw [tab_size, tab_size]) (tab_one _) ?_
       obtain ⟨w2, hw2⟩ : ∃ w2, (w1.alloc (.cells (tab fun _ => 0) 34)).setRow w1.heap.size (tab I) = w2 := ⟨_, rfl⟩
       have HR2 : Hid (RB w2 w1.heap.size (tab I)) := by show RB _ _ _; rw [← hw2]; exact setRow_heap _ _ _ _ _ _ (RB.new w1 _)
       have HB2 : Hid (Below W.heap.size W w2) := by show Below _ _ _; rw [← hw2]; exact below_setRow (HB1.out.alloc HB1.out.size _) HB1.out.size _
       rw [hw2]
       clear hw2
       obtain ⟨C, w3, hcv, h2, h3, h4⟩ := conv_sb s w2
       have H2 := Lib.hid h2
       have HB3 := Lib.hid (HB2.out.trans (h3.mono HB2.out.size))
       have HR3 := Lib.hid (HR2.out.below h3 HR2.out.lt)
       have HL := Lib.hid HR2.out.lt
       have HL2 := Lib.hid HB2.out.size
       clear h2 h3 h4 hz))
  go_loopw [28] (fun q wr => ∃ (k : Nat), q = .int .i64 k ∧ k ≤ s.size ∧ Hid (∀ j, j < s.size → wr.cell? ⟨w2.heap.size, j, none⟩ = some (.int .u8 (if j < k then I (PlainAid.bt s j).toNat else PlainAid.bt s j)) ∧ wr.frozen? ⟨w2.heap.size, j, none⟩ = false) ∧ Hid (RB wr w1.heap.size (tab I)) ∧ Hid (Below W.heap.size W wr)) (fun q _ => s.size - (intOf q).toNat)
  case atStart => exact ⟨0, rfl, Nat.zero_le _, fun j hj => by rw [if_neg (by omega)]; exact H2.out j hj, HR3, HB3⟩
  case round =>
    obtain ⟨k, rfl, hk, HC, HR, HB⟩ := hrel
    by_cases hlt : k < s.size
    · have b0 := PlainAid.bt_nonneg s k
      have b1 := PlainAid.bt_le s k
      obtain ⟨c, hc⟩ : ∃ c : Nat, PlainAid.bt s k = c := ⟨(PlainAid.bt s k).toNat, by omega⟩
      have HCC := Lib.hid hc
      have hcl : c < 256 := by omega
      have c1 := HR.out.cell c
      rw [tab_get _ c hcl] at c1
      have c2 := (HC.out k hlt).1
      rw [if_neg (by omega), hc] at c2
      have f2 := (HC.out k hlt).2
      have hd : ¬ w2.heap.size = w1.heap.size := by have := HL.out; omega
      clear b0 b1 hc
      go_wp2_with fail
      go_roundw
      case rel =>
        refine ⟨k + 1, by go_num, hlt, fun j hj => ?_, HR.out.other (by simp; omega) _, HB.out.setCell HL2.out _⟩
        have h1 := HC.out j hj
        by_cases e : j = k
        · subst e
          refine ⟨?_, by rw [World.frozen?_setCell]; exact h1.2⟩
          rw [World.cell?_setCell_same _ _ _ c2, if_pos (by omega), HCC.out, Int.toNat_natCast]
        · refine ⟨?_, by rw [World.frozen?_setCell]; exact h1.2⟩
          rw [World.cell?_setCell_other _ _ _ _ (by simp; try omega), h1.1]
          by_cases h2 : j < k
          · rw [if_pos h2, if_pos (by omega)]
          · rw [if_neg h2, if_neg (by omega)]
      case measure => first | (simp [intOf]; done) | (simp [intOf]; omega)
    · have hcb := conv_bs wr w2.heap.size s.size C Y HGS.out (fun j hj => by rw [(HC.out j hj).1, if_pos (by omega), HG.out j hj])
      go_wp2_with fail
      go_ret2
      exact ⟨rfl, HB.out⟩

/-- Down from m, no byte of f is b: then the last of them that is stands below m. -/
theorem imgK_down (f t : ByteArray) (b m : Nat) (h : ¬ (b : Int) = PlainAid.bt f m) : imgK f t (m + 1) b = imgK f t m b := by
  show (if (b : Int) = PlainAid.bt f m then _ else _) = _
  rw [if_neg h]
theorem imgK_hit (f t : ByteArray) (b m : Nat) (h : (b : Int) = PlainAid.bt f m) : imgK f t (m + 1) b = PlainAid.bt t m := by
  show (if (b : Int) = PlainAid.bt f m then _ else _) = _
  rw [if_pos h]

set_option maxHeartbeats 4000000 in
set_option maxRecDepth 100000 in
theorem spec_TranslateText_yes (s f t : ByteArray) (W : World) (hs : s.size ≤ 1048576) (hf : f.size ≤ 1048576) (h0 : 0 < f.size) (ht : f.size = t.size) :
    Calls Try.prog 9 #[.string s, .string f, .string t] W fun e w' => e = .returned (.tuple #[.string (trE s f t), .bool true]) ∧ Below W.heap.size W w' := by
  have e1 := ne_nil_of_size h0
  have e2 := not_isEmpty_of_size h0
  have e3 : (f.size : Int) = (t.size : Int) := by omega
  have e4 : ((f.size : Int) != (t.size : Int)) = false := by simp [e3]
  have HG := Lib.hid (fun j (h : j < s.size) => trE_bt s f t j h)
  have HGS := Lib.hid (trE_size s f t)
  generalize trE s f t = Y at HG HGS ⊢
  have hbs := PlainAid.get_bt s
  have hbf := PlainAid.get_bt f
  have hbt := PlainAid.get_bt t
  obtain ⟨C, w3, hcv, h2, h3, h4⟩ := conv_sb s W
  have H2 := Lib.hid h2
  have HB3 := Lib.hid h3
  clear h2 h3 h4
  go_enter Try.func9, Try.ntmps9
  go_wp2_with fail
  go_loopw [9] (fun q wr => ∃ (k : Nat), q = .int .i64 k ∧ k ≤ s.size ∧ Hid (∀ j, j < s.size → wr.cell? ⟨W.heap.size, j, none⟩ = some (.int .u8 (if j < k then imgK f t f.size (PlainAid.bt s j).toNat else PlainAid.bt s j)) ∧ wr.frozen? ⟨W.heap.size, j, none⟩ = false) ∧ Hid (Below W.heap.size W wr)) (fun q _ => s.size - (intOf q).toNat)
  case atStart => exact ⟨0, rfl, Nat.zero_le _, fun j hj => by rw [if_neg (by omega)]; exact H2.out j hj, HB3⟩
  case round =>
    obtain ⟨k, rfl, hk, HC, HB⟩ := hrel
    by_cases hlt : k < s.size
    · have b0 := PlainAid.bt_nonneg s k
      have b1 := PlainAid.bt_le s k
      obtain ⟨c, hc⟩ : ∃ c : Nat, PlainAid.bt s k = c := ⟨(PlainAid.bt s k).toNat, by omega⟩
      have HCC := Lib.hid hc
      have c2 := (HC.out k hlt).1
      rw [if_neg (by omega), hc] at c2
      have f2 := (HC.out k hlt).2
      -- what the inner loop leaves, in either way
      have HN : Hid (∀ w : World, w.cell? ⟨W.heap.size, k, none⟩ = some (.int .u8 (imgK f t f.size c)) → (∀ j, j < s.size → ¬ j = k → w.cell? ⟨W.heap.size, j, none⟩ = wr.cell? ⟨W.heap.size, j, none⟩) → (∀ j, w.frozen? ⟨W.heap.size, j, none⟩ = wr.frozen? ⟨W.heap.size, j, none⟩) →
          ∀ j, j < s.size → w.cell? ⟨W.heap.size, j, none⟩ = some (.int .u8 (if j < k + 1 then imgK f t f.size (PlainAid.bt s j).toNat else PlainAid.bt s j)) ∧ w.frozen? ⟨W.heap.size, j, none⟩ = false) := fun w h1 h2 h3 j hj => by
        refine ⟨?_, by rw [h3]; exact (HC.out j hj).2⟩
        by_cases e : j = k
        · subst e
          rw [h1, if_pos (by omega), HCC.out, Int.toNat_natCast]
        · rw [h2 j hj e, (HC.out j hj).1]
          by_cases h2 : j < k
          · rw [if_pos h2, if_pos (by omega)]
          · rw [if_neg h2, if_neg (by omega)]
      have hsk := hbs k hlt
      rw [hc] at hsk
      clear b0 b1 hc hbs
      go_wp2_with fail
      go_loopw [10] (fun q w => ∃ (m : Nat) (z : Int), q = .int .i64 z ∧ z = (m : Int) - 1 ∧ m ≤ f.size ∧ Hid (imgK f t f.size c = imgK f t m c) ∧ Hid (∃ d, w = wr.drewN d)) (fun q _ => (intOf q + 1).toNat)
      case atStart => exact ⟨f.size, _, rfl, by omega, Nat.le_refl _, rfl, 0, rfl⟩
      case round =>
        obtain ⟨m, z, rfl, hz, hm, HI, HD⟩ := hrel
        obtain ⟨d, rfl⟩ := HD.out
        by_cases hm0 : 0 < m
        · obtain ⟨p, rfl⟩ : ∃ p, m = p + 1 := ⟨m - 1, by omega⟩
          obtain rfl : z = (p : Int) := by omega
          have hpf : p < f.size := by omega
          have hpt : p < t.size := by omega
          have d0 : (0 : Int) ≤ p := by omega
          by_cases he : PlainAid.bt f p = (c : Int)
          · have HV : Hid (imgK f t f.size c = PlainAid.bt t p) := HI.out.trans (imgK_hit f t c p he.symm)
            have c3 : (wr.drewN d).cell? ⟨W.heap.size, k, none⟩ = some (.int .u8 c) := c2
            have f3 : (wr.drewN d).frozen? ⟨W.heap.size, k, none⟩ = false := f2
            clear hz hm HI
            go_wp2_with fail
            go_region
            go_wp2_with fail
            go_roundw
            case rel =>
              refine ⟨k + 1, by go_num, hlt, HN.out _ ?_ (fun j hj e => ?_) (fun j => by rw [World.frozen?_setCell]; rfl), (below_drewN HB.out _).setCell (Nat.le_refl _) _⟩
              · rw [World.cell?_setCell_same (wr.drewN (d + 1)) _ _ (u := .int .u8 c) c2, HV.out]
              · rw [World.cell?_setCell_other _ _ _ _ (by simp; try omega)]
                rfl
            case measure => first | (simp [intOf]; done) | (simp [intOf]; omega)
          · have hne : ((PlainAid.bt f p) == (c : Int)) = false := by simpa using he
            have HI2 : Hid (imgK f t f.size c = imgK f t p c) := HI.out.trans (imgK_down f t c p (fun e => he e.symm))
            clear hz hm HI
            go_wp2_with fail
            go_region
            go_wp2_with fail
            go_roundw
            case rel => exact ⟨p, (p : Int) - 1, by go_num, rfl, by omega, HI2, d + 1, rfl⟩
            case measure => first | (simp [intOf]; done) | (simp [intOf]; omega)
        · obtain rfl : m = 0 := by omega
          have hz1 : ¬ (0 : Int) ≤ z := by omega
          have HI2 : Hid (∀ w : World, w = wr.drewN d → ∀ j, j < s.size → w.cell? ⟨W.heap.size, j, none⟩ = some (.int .u8 (if j < k + 1 then imgK f t f.size (PlainAid.bt s j).toNat else PlainAid.bt s j)) ∧ w.frozen? ⟨W.heap.size, j, none⟩ = false) := fun w hw => HN.out w (by rw [hw, HI.out]; exact c2) (fun j hj e => by rw [hw]; rfl) (fun j => by rw [hw]; rfl)
          clear hz
          go_wp2_with fail
          go_roundw
          case rel => exact ⟨k + 1, by go_num, hlt, HI2.out _ rfl, below_drewN HB.out d⟩
          case measure => first | (simp [intOf]; done) | (simp [intOf]; omega)
    · have hcb := conv_bs wr W.heap.size s.size C Y HGS.out (fun j hj => by rw [(HC.out j hj).1, if_pos (by omega), HG.out j hj])
      go_wp2_with fail
      go_ret2
      exact ⟨rfl, HB.out⟩

theorem trOk_yes {f t : ByteArray} (h : trOk f t = true) : 0 < f.size ∧ f.size = t.size := by
  unfold trOk at h
  simp only [Bool.and_eq_true, Bool.not_eq_true', beq_eq_false_iff_ne, beq_iff_eq] at h
  exact ⟨by omega, h.2⟩
theorem impl_TranslateText_any (s f t : ByteArray) (W : World) (hs : s.size ≤ 1048576) (hf : f.size ≤ 1048576) (ht : t.size ≤ 1048576) :
    Calls Try.prog 10 #[.string s, .string f, .string t] W fun e w' => e = .returned (.tuple #[.string (trS s f t), .bool (trOk f t)]) ∧ Below W.heap.size W w' := by
  cases h : trOk f t
  · rw [show trS s f t = ⟨#[]⟩ by simp [trS, h]]
    exact (impl_TranslateText_no s f t W hf ht h).mono fun e w' ⟨h1, h2⟩ => ⟨h1, h2 ▸ Below.refl _ _⟩
  · rw [show trS s f t = trE s f t by simp [trS, h]]
    exact impl_TranslateText_yes s f t W hs hf (trOk_yes h).1 (trOk_yes h).2
theorem spec_TranslateText_any (s f t : ByteArray) (W : World) (hs : s.size ≤ 1048576) (hf : f.size ≤ 1048576) (ht : t.size ≤ 1048576) :
    Calls Try.prog 9 #[.string s, .string f, .string t] W fun e w' => e = .returned (.tuple #[.string (trS s f t), .bool (trOk f t)]) ∧ Below W.heap.size W w' := by
  cases h : trOk f t
  · rw [show trS s f t = ⟨#[]⟩ by simp [trS, h]]
    exact (spec_TranslateText_no s f t W hf ht h).mono fun e w' ⟨h1, h2⟩ => ⟨h1, h2 ▸ Below.refl _ _⟩
  · rw [show trS s f t = trE s f t by simp [trS, h]]
    exact spec_TranslateText_yes s f t W hs hf (trOk_yes h).1 (trOk_yes h).2

set_option maxHeartbeats 1000000 in
theorem walk_FnExactTranslateText (s : ByteArray) (w0 : s.size ≤ maxLen) (f : ByteArray) (w1 : f.size ≤ maxLen) (t : ByteArray) (w2 : t.size ≤ maxLen) (W : World) :
    Calls Try.prog 4 #[.string s, .string f, .string t] W fun e w' => e = .returned (.bool true) ∧ Below W.heap.size W w' := by
  unfold maxLen at w0 w1 w2
  obtain ⟨p, hp⟩ : ∃ p, trS s f t = p := ⟨_, rfl⟩
  obtain ⟨q, hq⟩ : ∃ q, trOk f t = q := ⟨_, rfl⟩
  have HP := Lib.hid hp
  have HQ := Lib.hid hq
  clear hp hq
  by_cases h : (s.size : Int) ≤ 1048576
  · have HS : Hid (s.size ≤ 1048576) := by show _ ≤ _; omega
    by_cases h2 : (f.size : Int) ≤ 1048576
    · have HF : Hid (f.size ≤ 1048576) := by show _ ≤ _; omega
      by_cases h3 : (t.size : Int) ≤ 1048576
      · have HT : Hid (t.size ≤ 1048576) := by show _ ≤ _; omega
        go_enter Try.func4, Try.ntmps4
        go_wp2_with (first
          | (go_at_call 9; refine (spec_TranslateText_any _ _ _ _ HS.out HF.out HT.out).mono ?_; rintro e w1 ⟨rfl, hb⟩; rw [HP.out, HQ.out]; have HB := Lib.hid hb; clear hb)
          | (go_at_call 10; refine (impl_TranslateText_any _ _ _ _ HS.out HF.out HT.out).mono ?_; rintro e w2 ⟨rfl, hb⟩; rw [HP.out, HQ.out]; have HB2 := Lib.hid (HB.out.trans (hb.mono HB.out.size)); clear hb))
        all_goals go_ret
        all_goals exact ⟨rfl, HB2.out⟩
      · have h' : 1048576 < (t.size : Int) := by omega
        clear h3
        go_enter Try.func4, Try.ntmps4
        go_wp2_with fail
        go_ret
        exact ⟨rfl, Below.refl _ _⟩
    · have h' : 1048576 < (f.size : Int) := by omega
      clear h2
      go_enter Try.func4, Try.ntmps4
      go_wp2_with fail
      go_ret
      exact ⟨rfl, Below.refl _ _⟩
  · have h' : 1048576 < (s.size : Int) := by omega
    clear h
    go_enter Try.func4, Try.ntmps4
    go_wp2_with fail
    go_ret
    exact ⟨rfl, Below.refl _ _⟩
end Go.Proofs.Ytgagijddbokfhab
