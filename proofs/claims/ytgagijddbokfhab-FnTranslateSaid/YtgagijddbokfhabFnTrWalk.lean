/- The law's walk: FnTranslate. No condition. -/
import Derived.Test.YtgagijddbokfhabDrawT
import Derived.Test.YtgagijddbokfhabTrans2
namespace Go.Proofs.Ytgagijddbokfhab
open Go Go.RowKit

theorem img_hit (f t : ByteArray) (b : Nat) : ∀ n, (∃ j, j < n ∧ PlainAid.bt f j = (b : Int)) → ∃ j, j < n ∧ PlainAid.bt t j = imgK f t n b
  | 0, ⟨j, h, _⟩ => by omega
  | n + 1, ⟨j, h, e⟩ => by
    by_cases h1 : (b : Int) = PlainAid.bt f n
    · exact ⟨n, by omega, (imgK_hit f t b n h1).symm⟩
    · obtain ⟨j', hj', e'⟩ := img_hit f t b n ⟨j, by
        rcases Nat.lt_or_ge j n with h2 | h2
        · exact h2
        · obtain rfl : j = n := by omega
          exact absurd e.symm h1, e⟩
      exact ⟨j', by omega, by rw [imgK_down f t b n h1]; exact e'⟩
theorem img_miss (f t : ByteArray) (b : Nat) : ∀ n, (∀ j, j < n → ¬ PlainAid.bt f j = (b : Int)) → imgK f t n b = (b : Int)
  | 0, _ => rfl
  | n + 1, h => by
    rw [imgK_down f t b n (fun e => h n (by omega) e.symm)]
    exact img_miss f t b n fun j hj => h j (by omega)
theorem img_self (f : ByteArray) (b : Nat) : ∀ n, imgK f f n b = (b : Int)
  | 0 => rfl
  | n + 1 => by
    by_cases h1 : (b : Int) = PlainAid.bt f n
    · rw [imgK_hit f f b n h1]; exact h1.symm
    · rw [imgK_down f f b n h1]; exact img_self f b n
theorem trE_self (s f : ByteArray) : trE s f f = s := by
  refine bt_ext (trE_size s f f) fun j hj => ?_
  rw [trE_size] at hj
  rw [trE_bt s f f j hj, img_self]
  have := PlainAid.bt_nonneg s j
  omega
/-- A byte of the translated text that is in the first list is in the second. -/
theorem tr_in {s f t : ByteArray} {i : Nat} (hi : i < s.size) (h : ∃ j, j < f.size ∧ PlainAid.bt f j = PlainAid.bt (trE s f t) i) : ∃ j, j < f.size ∧ PlainAid.bt t j = PlainAid.bt (trE s f t) i := by
  rw [trE_bt s f t i hi] at h ⊢
  by_cases hm : ∃ j, j < f.size ∧ PlainAid.bt f j = ((PlainAid.bt s i).toNat : Int)
  · exact img_hit f t _ _ hm
  · have e := img_miss f t (PlainAid.bt s i).toNat f.size fun j hj e => hm ⟨j, hj, e⟩
    rw [e] at h
    exact absurd h hm

theorem trOk_cases (f t : ByteArray) : (trOk f t = false ∧ f.size = 0 ∧ True) ∨ (trOk f t = false ∧ 0 < f.size ∧ ¬ f.size = t.size) ∨ (trOk f t = true ∧ 0 < f.size ∧ f.size = t.size) := by
  cases h : trOk f t
  · by_cases h0 : f.size = 0
    · exact .inl ⟨rfl, h0, trivial⟩
    · refine .inr (.inl ⟨rfl, by omega, fun e => ?_⟩)
      unfold trOk at h
      have hb0 : (f.size == 0) = false := by simpa using h0
      have hb1 : (f.size == t.size) = true := by simp; omega
      rw [hb0, hb1] at h
      simp at h
  · exact .inr (.inr ⟨rfl, trOk_yes h⟩)
theorem or_step {p : Nat → Int} {y : Int} {k : Nat} {b d : Bool} (h : b = true ↔ ∃ j, j < k ∧ p j = y) (hd : (p k == y) = d) : (b || d) = true ↔ ∃ j, j < k + 1 ∧ p j = y := by
  rw [Bool.or_eq_true, h, ← hd, beq_iff_eq]
  constructor
  · rintro (⟨j, hj, e⟩ | e)
    · exact ⟨j, by omega, e⟩
    · exact ⟨k, by omega, e⟩
  · rintro ⟨j, hj, e⟩
    rcases Nat.lt_or_ge j k with h1 | h1
    · exact .inl ⟨j, h1, e⟩
    · obtain rfl : j = k := by omega
      exact .inr e
theorem trS_yes {s f t : ByteArray} (h : trOk f t = true) : trS s f t = trE s f t := by simp [trS, h]
theorem trS_size {s f t : ByteArray} (h : trOk f t = true) : (trS s f t).size = s.size := by rw [trS_yes h, trE_size]
theorem trOk_self {f : ByteArray} (h : 0 < f.size) : trOk f f = true := by
  unfold trOk
  have hb0 : (f.size == 0) = false := by
    rw [beq_eq_false_iff_ne]
    omega
  rw [hb0]
  simp

set_option maxHeartbeats 4000000 in
set_option maxRecDepth 100000 in
theorem walk_FnTranslate (A : Option Addr) (n c : Nat) (w0 : n ≤ maxLen) (W : World) (hcode : Code W W.heap.size A n) :
    Calls Try.prog 6 #[.slice A n c] W fun e w' => e = .returned (.bool true) ∧ Below W.heap.size W w' := by
  unfold maxLen at w0
  have HCL : Hid (Calls Try.prog 13 #[.slice A n c] W fun e w' => e = .returned (.bool (decide (1048576 < (n : Int)))) ∧ W = w') := c2Long_any A n c W (by omega)
  by_cases hlong : 1048576 < (n : Int)
  · have d0 : decide (1048576 < (n : Int)) = true := by simpa using hlong
    have HD := Lib.hid d0
    clear d0 hcode
    go_enter Try.func6, Try.ntmps6
    go_wp2_with (go_at_call 13; refine HCL.out.mono ?_; rintro e w' ⟨rfl, rfl⟩; rw [HD.out])
    go_ret
    exact ⟨rfl, Below.refl _ _⟩
  have d0 : decide (1048576 < (n : Int)) = false := by simpa using hlong
  have HD := Lib.hid d0
  have HDR := Lib.hid (DrawTranslateText_any A n c W (by omega) hcode)
  have T1 : True := trivial
  clear d0 hcode hlong
  go_enter Try.func6, Try.ntmps6
  go_wp2_with (first
    | (go_at_call 13; refine HCL.out.mono ?_; rintro e w' ⟨rfl, rfl⟩; rw [HD.out])
    | (go_at_call 14; refine HDR.out.mono ?_; rintro e w1 ⟨s, f, t, rfl, hp⟩; have hs12 := hp.out.1; have hf12 := hp.out.2.1; have ht12 := hp.out.2.2.1; have HB1 := Lib.hid hp.out.2.2.2; rcases trOk_cases f t with ⟨h, p1, p2⟩ | ⟨h, p1, p2⟩ | ⟨h, p1, p2⟩ <;> (have HOK := Lib.hid h; (first | (have e1 := nil_of_size p1; have e2 := isEmpty_of_size p1) | (have e1 := ne_nil_of_size p1; have e2 := not_isEmpty_of_size p1)); (try have p3 : ((f.size : Int) != (t.size : Int)) = true := (by simp; omega)); clear h hp))
    | (go_at_call 10; have tk := T1; refine (impl_TranslateText_any s f t w1 (by omega) (by omega) (by omega)).mono ?_; clear T1 tk; rintro e w2 ⟨rfl, hb⟩; rw [HOK.out]; have HB2 := Lib.hid (HB1.out.trans (hb.mono HB1.out.size)); obtain ⟨x, hx⟩ : ∃ x, trS s f t = x := ⟨_, rfl⟩; rw [hx]; (try have hxs : ((x.size : Int) != (s.size : Int)) = false := (by rw [← hx, trS_size HOK.out]; simp)); have HX := Lib.hid hx; clear hb hx))
  · go_ret
    exact ⟨rfl, HB2.out⟩
  · go_ret
    exact ⟨rfl, HB2.out⟩
  · have HXE : Hid (trE s f t = x) := (trS_yes HOK.out).symm.trans HX.out
    have hxz : x.size = s.size := by rw [← HXE.out, trE_size]
    have HIN : Hid (∀ i, i < s.size → (∃ j, j < f.size ∧ PlainAid.bt f j = PlainAid.bt x i) → ∃ j, j < f.size ∧ PlainAid.bt t j = PlainAid.bt x i) := fun i hi => by rw [← HXE.out]; exact tr_in hi
    have hbf := PlainAid.get_bt f
    have hbt := PlainAid.get_bt t
    have hbx := PlainAid.get_bt x
    go_loopw [8] (fun q wr => ∃ i : Nat, q = .int .i64 i ∧ i ≤ x.size ∧ Hid (Below W.heap.size W wr)) (fun q _ => x.size - (intOf q).toNat)
    case atStart => exact ⟨0, rfl, Nat.zero_le _, HB2⟩
    case round =>
      obtain ⟨i, rfl, hi, HW⟩ := hrel
      by_cases hlt : i < x.size
      · have hxi := hbx i hlt
        go_wp2_with fail
        go_loopw [9, 10, 11] (fun u v q w => ∃ (k : Nat) (bi bo : Bool), u = .bool bi ∧ v = .bool bo ∧ q = .int .i64 k ∧ k ≤ f.size ∧ Hid (bi = true ↔ ∃ j, j < k ∧ PlainAid.bt f j = PlainAid.bt x i) ∧ Hid (bo = true ↔ ∃ j, j < k ∧ PlainAid.bt t j = PlainAid.bt x i) ∧ Hid (Below W.heap.size W w)) (fun _ _ q _ => f.size - (intOf q).toNat)
        case atStart => exact ⟨0, false, false, rfl, rfl, rfl, Nat.zero_le _, Lib.hid ⟨fun h => Bool.noConfusion h, fun ⟨j, hj, _⟩ => absurd hj (Nat.not_lt_zero j)⟩, Lib.hid ⟨fun h => Bool.noConfusion h, fun ⟨j, hj, _⟩ => absurd hj (Nat.not_lt_zero j)⟩, HW⟩
        case round =>
          obtain ⟨k, bi, bo, rfl, rfl, rfl, hk, HBI, HBO, HWW⟩ := hrel
          by_cases hltk : k < f.size
          · have htk : k < t.size := by omega
            have hfk := hbf k hltk
            have htk' := hbt k htk
            obtain ⟨d1, hd1⟩ : ∃ d, (PlainAid.bt f k == PlainAid.bt x i) = d := ⟨_, rfl⟩
            obtain ⟨d2, hd2⟩ : ∃ d, (PlainAid.bt t k == PlainAid.bt x i) = d := ⟨_, rfl⟩
            have HN1 : Hid ((bi || d1) = true ↔ ∃ j, j < k + 1 ∧ PlainAid.bt f j = PlainAid.bt x i) := or_step HBI.out hd1
            have HN2 : Hid ((bo || d2) = true ↔ ∃ j, j < k + 1 ∧ PlainAid.bt t j = PlainAid.bt x i) := or_step HBO.out hd2
            clear HBI HBO hbf hbt hbx
            cases bi <;> cases bo <;> cases d1 <;> cases d2
            all_goals
              go_wp2_with fail
              go_region
              go_wp2_with fail
              go_region
              go_wp2_with fail
              go_roundw
              case rel => exact ⟨k + 1, _, _, rfl, rfl, by go_num, hltk, HN1, HN2, HWW.out.drew.drew⟩
              case measure => first | (simp [intOf]; done) | (simp [intOf]; omega)
          · obtain rfl : k = f.size := by omega
            have HI : Hid (bi = true → bo = true) := fun h => HBO.out.2 (HIN.out i (by omega) (HBI.out.1 h))
            clear HBI HBO
            cases bi
            · go_wp2_with fail
              go_roundw
              case rel => exact ⟨i + 1, by go_num, hlt, HWW⟩
              case measure => first | (simp [intOf]; done) | (simp [intOf]; omega)
            · obtain rfl : bo = true := HI.out rfl
              go_wp2_with fail
              go_roundw
              case rel => exact ⟨i + 1, by go_num, hlt, HWW⟩
              case measure => first | (simp [intOf]; done) | (simp [intOf]; omega)
      · have HS2 : Hid (∀ w, Calls Try.prog 10 #[.string s, .string f, .string f] w fun e w' => e = .returned (.tuple #[.string s, .bool true]) ∧ Below w.heap.size w w') := fun w => by
          have h := impl_TranslateText_any s f f w (by omega) (by omega) (by omega)
          rw [trOk_self p1, trS_yes (trOk_self p1), trE_self] at h
          exact h
        go_wp2_with (go_at_call 10; refine (HS2.out _).mono ?_; rintro e w3 ⟨rfl, hb⟩; have HB3 := Lib.hid (HW.out.trans (hb.mono HW.out.size)); clear hb)
        go_ret
        exact ⟨rfl, HB3.out⟩
end Go.Proofs.Ytgagijddbokfhab
