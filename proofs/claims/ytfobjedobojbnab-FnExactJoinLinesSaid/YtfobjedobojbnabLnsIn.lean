/- An argument that is a slice of lines: szLineS, toLineS. No condition. -/
import Derived.Test.YtfobjedobojbnabLns
import Derived.Test.YtfobjedobojbnabListOf
namespace Go.Proofs.Ytfobjedobojbnab
open Go Go.RowKit

/-- A slice of lines that came in: its cells lie below B. -/
def LI (w : World) (B : Nat) (A : Option Addr) (n : Nat) (xs : List Lin) : Prop :=
  xs.length = n ∧ (0 < n → ∃ b off, A = some ⟨b, off, none⟩ ∧ b < B ∧ ∀ j x, xs[j]? = some x → (w.cell? ⟨b, off + j * 2, none⟩ = some (.int .i64 x.n) ∧ w.cell? ⟨b, off + j * 2 + 1, none⟩ = some (.string x.t)) ∧ x.t.size ≤ maxLen)
theorem LI.below {w w' : World} {B n : Nat} {A : Option Addr} {xs : List Lin} (h : LI w B A n xs) (hb : Below B w w') : LI w' B A n xs :=
  ⟨h.1, fun hn => by
    obtain ⟨b, off, e, hg, hc⟩ := h.2 hn
    exact ⟨b, off, e, hg, fun j x hx => ⟨⟨(hb.cell (p := ⟨b, off + j * 2, none⟩) hg).trans (hc j x hx).1.1, (hb.cell (p := ⟨b, off + j * 2 + 1, none⟩) hg).trans (hc j x hx).1.2⟩, (hc j x hx).2⟩⟩⟩
theorem LI.more {w : World} {B B' n : Nat} {A : Option Addr} {xs : List Lin} (h : LI w B A n xs) (hB : B ≤ B') : LI w B' A n xs :=
  ⟨h.1, fun hn => by
    obtain ⟨b, off, e, hg, hc⟩ := h.2 hn
    exact ⟨b, off, e, by omega, hc⟩⟩
theorem LI.at_ {w : World} {B n k : Nat} {A : Option Addr} {xs : List Lin} (h : LI w B A n xs) (hk : k < n) : ∃ b off x, A = some ⟨b, off, none⟩ ∧ b < B ∧ xs[k]? = some x ∧ (w.cell? ⟨b, off + k * 2, none⟩ = some (.int .i64 x.n) ∧ w.cell? ⟨b, off + k * 2 + 1, none⟩ = some (.string x.t)) ∧ x.t.size ≤ maxLen := by
  obtain ⟨b, off, e, hg, hc⟩ := h.2 (by omega)
  have hl : k < xs.length := by rw [h.1]; exact hk
  exact ⟨b, off, xs[k], e, hg, List.getElem?_eq_getElem hl, hc k _ (List.getElem?_eq_getElem hl)⟩

theorem below_grown_none {w w' : World} (h : w.grownBy w' none) : Below w.heap.size w w' := (Below.refl _ _).grown h (Nat.le_refl _) (fun k hk => by cases hk)
theorem open_lines {H : Type} {enc : TypeId × Value → H} {W : World} {A : Option Addr} {n c : Nat} {d : DataW H} {p : List MemPlace} (h : DataW.Trod enc Try.prog W 0 (fun _ => true) true 22 (.slice A n c) d p) :
    n ≤ maxLen ∧ ∃ xs, LI W W.heap.size A n xs := by
  obtain ⟨fuel, hf⟩ := h
  obtain ⟨hm, hc⟩ := open_structs Try.underlying22 Try.underlying31 (by kernel_rfl) (by kernel_rfl) (by decide) (by simpa [Value.cells] using hf)
  refine ⟨hm, ?_⟩
  by_cases hn : 0 < n
  · obtain ⟨b, off, e, hb, hi⟩ := hc hn
    obtain ⟨xs, hl, hx⟩ := list_of (α := Lin) (P := fun j x => (W.cell? ⟨b, off + j * 2, none⟩ = some (.int .i64 x.n) ∧ W.cell? ⟨b, off + j * 2 + 1, none⟩ = some (.string x.t)) ∧ x.t.size ≤ maxLen) (n := n) fun i hin => by
      obtain ⟨v0, y0, m0, c0, t0⟩ := hi i hin 0 _ rfl
      obtain ⟨v1, y1, m1, c1, t1⟩ := hi i hin 1 _ rfl
      obtain ⟨z0, e0, _, _⟩ := DataW.trod_int Try.underlying2 t0
      obtain ⟨z1, e1, _, hz⟩ := DataW.trod_string Try.underlying9 t1
      simp only [List.cons.injEq, and_true] at e0 e1
      subst e0 e1
      exact ⟨⟨z0, z1⟩, ⟨c0, c1⟩, hz⟩
    exact ⟨xs, hl, fun _ => ⟨b, off, e, hb, fun j x hj => hx j x hj⟩⟩
  · exact ⟨[], by simp; omega, fun h => absurd h hn⟩

/-- The texts' bytes of the first k lines. -/
def sumL (xs : List Lin) : Nat → Nat
  | 0 => 0
  | k + 1 => sumL xs k + ((xs[k]?.map fun (x : Lin) => x.t.size).getD 0)
theorem sumL_next {xs : List Lin} {k : Nat} {x : Lin} (h : xs[k]? = some x) : sumL xs (k + 1) = sumL xs k + x.t.size := by
  rw [sumL, h]
  rfl
theorem sumL_mono {xs : List Lin} {j : Nat} : ∀ {k : Nat}, j ≤ k → sumL xs j ≤ sumL xs k
  | 0, h => by obtain rfl : j = 0 := by omega
               exact Nat.le_refl _
  | k + 1, h => by
    by_cases e : j = k + 1
    · rw [e]; exact Nat.le_refl _
    · have := sumL_mono (xs := xs) (show j ≤ k by omega)
      rw [sumL]
      omega

theorem szLine_fits (n : Int) (t : ByteArray) (L : Int) (W : World) (ht : (t.size : Int) ≤ L) (hL : L ≤ 1048576) :
    Calls Try.prog 9 #[.agg #[.int .i64 n, .string t], .int .i64 L] W fun e w' => e = .returned (.int .i64 (L - t.size)) ∧ Below W.heap.size W w' := by
  go_enter Try.func9, Try.ntmps9
  go_wp2
  all_goals go_ret
  all_goals exact ⟨rfl, (Below.refl _ _).alloc (Nat.le_refl _) _⟩
theorem szLine_long (n : Int) (t : ByteArray) (L : Int) (W : World) (ht : L < (t.size : Int)) (h0 : 0 ≤ L) (hL : L ≤ 1048576) (hm : t.size ≤ maxLen) :
    Calls Try.prog 9 #[.agg #[.int .i64 n, .string t], .int .i64 L] W fun e w' => e = .returned (.int .i64 (-1)) ∧ Below W.heap.size W w' := by
  unfold maxLen at hm
  go_enter Try.func9, Try.ntmps9
  go_wp2
  all_goals go_ret
  all_goals exact ⟨rfl, (Below.refl _ _).alloc (Nat.le_refl _) _⟩
theorem toLine_any (n : Int) (t : ByteArray) (W : World) :
    Calls Try.prog 10 #[.agg #[.int .i64 n, .string t]] W fun e w' => e = .returned (.agg #[.int .i64 n, .string t]) ∧ Below W.heap.size W w' := by
  go_enter Try.func10, Try.ntmps10
  go_wp2
  exact bodyPost_ret (v := .agg #[.int .i64 n, .string t]) (by simp [results, Try.results10, go_sem]) rfl
    ⟨rfl, by repeat (first | exact Below.refl _ _ | refine Below.setCell ?_ (by first | (simp; done) | (simp; omega)) _ | refine Below.alloc ?_ (by first | (simp; done) | (simp; omega)) _)⟩

/-- What szLineS answers: what is left, or -1. -/
def SzL (xs : List Lin) (n : Nat) (W : World) (e : Ending) (w' : World) : Prop :=
  ((n + sumL xs n ≤ 1048576 ∧ e = .returned (.int .i64 (1048576 - (n : Int) - (sumL xs n : Int)))) ∨ (1048576 < n + sumL xs n ∧ e = .returned (.int .i64 (-1)))) ∧ Below W.heap.size W w'

set_option maxHeartbeats 1000000 in
set_option maxRecDepth 100000 in
theorem szLineS_any (A : Option Addr) (n c : Nat) (xs : List Lin) (W : World) (hr : LI W W.heap.size A n xs) (hn : n ≤ maxLen) :
    Calls Try.prog 4 #[.slice A n c, .int .i64 1048576] W (SzL xs n W) := by
  have HR := Lib.hid hr
  clear hr
  unfold maxLen at hn
  by_cases hbig : 1048576 < n
  · have HB : Hid (1048576 < n + sumL xs n) := by show _ < _; omega
    have h1 : (1048576 : Int) < (n : Int) := by omega
    have h2 : (n : Int) ≤ 9223372036854775807 := by omega
    have d0 : decide ((1048576 : Int) - n < 0) = true := by simp; omega
    go_enter Try.func4, Try.ntmps4
    go_wp2_with fail
    go_ret
    exact ⟨.inr ⟨HB.out, rfl⟩, Below.refl _ _⟩
  · have h1 : (n : Int) ≤ 1048576 := by omega
    have hn' : n ≤ 1048576 := by omega
    have d0 : decide ((1048576 : Int) - n < 0) = false := by simp; omega
    clear hbig
    go_enter Try.func4, Try.ntmps4
    go_wp2_with fail
    go_loopw [1, 5] (fun q i wr => ∃ k : Nat, ∃ z : Int, k ≤ n ∧ i = .int .i64 k ∧ q = .int .i64 z ∧ 0 ≤ z ∧ z ≤ 1048576 ∧ Hid (z = 1048576 - (n : Int) - (sumL xs k : Int)) ∧ Hid (Below W.heap.size W wr)) (fun _ i _ => n - (intOf i).toNat)
    case atStart => exact ⟨0, _, Nat.zero_le _, rfl, rfl, by omega, by omega, by show _ = _; simp [sumL], Below.refl _ _⟩
    case round =>
      obtain ⟨k, z, hk, rfl, rfl, hz0, hz1, HZ, HW⟩ := hrel
      by_cases hlt : k < n
      · obtain ⟨b, off, x, rfl, hg, hx, ⟨q0, q1⟩, hxs⟩ := (HR.out.below HW.out).at_ hlt
        obtain ⟨xn, xt⟩ := x
        dsimp only at q0 q1 hxs
        have HX := Lib.hid hx
        have HXS := Lib.hid hxs
        have b0 : (0 : Int) ≤ (k : Int) := by omega
        have b1 : (k : Int) < (n : Int) := by omega
        clear hx hxs hg
        by_cases hf : (xt.size : Int) ≤ z
        · have dz : decide (z - (xt.size : Int) < 0) = false := by simp; omega
          have HF : Hid ((xt.size : Int) ≤ z) := hf
          have HZ1 : Hid (z ≤ 1048576) := hz1
          have HS : Hid (sumL xs (k + 1) = sumL xs k + xt.size) := sumL_next HX.out
          go_wp2_with (go_at_call 9; refine (szLine_fits _ _ _ _ HF.out HZ1.out).mono ?_; rintro e w1 ⟨rfl, hb⟩; have HW1 : Hid (Below W.heap.size W w1) := HW.out.trans (hb.mono HW.out.size); clear hb)
          go_roundw
          case rel => exact ⟨k + 1, _, by omega, by go_num, rfl, by omega, by omega, by show _ = _; rw [HS.out, HZ.out]; omega, HW1⟩
          case measure => simp [intOf]; omega
        · have HF : Hid (z < (xt.size : Int)) := by show _ < _; omega
          have HZ0 : Hid (0 ≤ z) := hz0
          have HZ1 : Hid (z ≤ 1048576) := hz1
          have HBIG : Hid (1048576 < n + sumL xs n) := by
            show _ < _
            have h1 := sumL_mono (xs := xs) (j := k + 1) (k := n) (by omega)
            rw [sumL_next HX.out] at h1
            have h2 := HZ.out
            dsimp only at h1
            omega
          clear hf
          go_wp2_with (go_at_call 9; refine (szLine_long _ _ _ _ HF.out HZ0.out HZ1.out HXS.out).mono ?_; rintro e w1 ⟨rfl, hb⟩; have HW1 : Hid (Below W.heap.size W w1) := HW.out.trans (hb.mono HW.out.size); clear hb)
          go_ret
          exact ⟨.inr ⟨HBIG.out, rfl⟩, HW1.out⟩
      · have hkn : k = n := by omega
        have HE : Hid (n + sumL xs n ≤ 1048576 ∧ z = 1048576 - (n : Int) - (sumL xs n : Int)) := by
          have h := HZ.out
          rw [hkn] at h
          exact ⟨by omega, h⟩
        go_wp2_with fail
        go_ret
        exact ⟨.inl ⟨HE.out.1, by rw [HE.out.2]; rfl⟩, HW.out⟩

/-- The elements of block g ahead of j are filled. -/
def FilledL (w : World) (g j n : Nat) (xs : List Lin) : Prop := ∃ cs, LB w g cs ∧ n * 2 ≤ cs.size ∧ ∀ (i q : Nat) (x : Lin) (v : Value), i < j → xs[i]? = some x → x.vs[q]? = some v → cs[i * 2 + q]? = some v
theorem put2_old {cs : Array Value} {b : Nat} {v0 v1 : Value} {i : Nat} (h : i < b) : ((cs.setIfInBounds b v0).setIfInBounds (b + 1) v1)[i]? = cs[i]? := by
  rw [Array.getElem?_setIfInBounds_ne (by omega), Array.getElem?_setIfInBounds_ne (by omega)]
theorem put2_new {cs : Array Value} {b : Nat} {v0 v1 : Value} (hb : b + 1 < cs.size) : ∀ (x : Nat) (v : Value), [v0, v1][x]? = some v → ((cs.setIfInBounds b v0).setIfInBounds (b + 1) v1)[b + x]? = some v
  | 0, v, h => by
    simp only [List.getElem?_cons_zero, Option.some.injEq] at h
    subst h
    simp only [Nat.add_zero]
    rw [Array.getElem?_setIfInBounds_ne (by omega), Array.getElem?_setIfInBounds_self_of_lt (by omega)]
  | 1, v, h => by
    simp only [List.getElem?_cons_zero, List.getElem?_cons_succ, Option.some.injEq] at h
    subst h
    rw [Array.getElem?_setIfInBounds_self_of_lt (by simp only [Array.size_setIfInBounds]; omega)]
  | x + 2, v, h => by simp at h
theorem lineInfo : (Try.prog.info? 32).map (fun i => (i.zero, i.size, i.bytes)) = some (some (Value.agg #[.int .i64 0, .string ⟨#[]⟩]), 2, 24) := by kernel_rfl
theorem block_of_own {w : World} {B g n : Nat} {xs : List Value} (h : w.ownsRow B 32 2 (.slice (some ⟨g, 0, none⟩) n n) n xs) : ∃ cs, LB w g cs ∧ n * 2 ≤ cs.size := by
  rcases h.2 with ⟨h', _⟩ | ⟨g', cap', cur, h', _, hg, _, _, hsz, _⟩
  · simp at h'
  · simp only [Value.slice.injEq, Option.some.injEq, Addr.mk.injEq, and_true, true_and] at h'
    obtain ⟨rfl, rfl⟩ := h'
    exact ⟨cur, hg, by omega⟩

/-- What toLineS answers. -/
def ToL (xs : List Lin) (n : Nat) (W : World) (e : Ending) (w' : World) : Prop :=
  ∃ g, e = .returned (.slice (some ⟨g, 0, none⟩) n n) ∧ Hid (LR w' w'.heap.size (some ⟨g, 0, none⟩) n xs ∧ Below W.heap.size W w')

set_option maxHeartbeats 2000000 in
set_option maxRecDepth 100000 in
theorem toLineS_any (A : Option Addr) (n c : Nat) (xs : List Lin) (W : World) (hr : LI W W.heap.size A n xs) (hn : n ≤ 1048576) :
    Calls Try.prog 6 #[.slice A n c] W (ToL xs n W) := by
  obtain ⟨i0, hi, hz0, hz1, hz2⟩ := info_parts lineInfo
  have HR := Lib.hid hr
  have h1 : (n : Int) ≤ 1048576 := by omega
  clear hr
  go_enter Try.func6, Try.ntmps6
  go_wp2_with (at_make; refine wpList_make_full _ rfl _ _ 25 rfl W.heap.size 32 i0 (.agg #[.int .i64 0, .string ⟨#[]⟩]) 2 Try.underlying25 hi hz0 hz1 .i64 .i64 n n n rfl rfl rfl rfl (by rw [hz2]; omega) (by unfold maxLen; omega) (Nat.le_refl _) ?_)
  intro w1 hown hgrow
  have HB1 : Hid (Below W.heap.size W w1) := below_grown_none hgrow
  obtain ⟨cs, hcs, hcn⟩ := block_of_own hown
  have HG : Hid (W.heap.size < w1.heap.size) := hcs.lt
  have HM : Hid (FilledL w1 W.heap.size 0 n xs) := ⟨cs, hcs, hcn, fun i q x v hi => absurd hi (by omega)⟩
  clear hown hgrow hcs hcn hi hz0 hz1 hz2
  go_wp2_with fail
  go_loopw [4] (fun i wr => ∃ j : Nat, j ≤ n ∧ i = .int .i64 j ∧ Hid (Below W.heap.size W wr) ∧ Hid (W.heap.size < wr.heap.size) ∧ Hid (FilledL wr W.heap.size j n xs)) (fun i _ => n - (intOf i).toNat)
  case atStart => exact ⟨0, Nat.zero_le _, rfl, HB1, HG, HM⟩
  case round =>
    obtain ⟨j, hj, rfl, HW, HZ, HJ⟩ := hrel
    by_cases hlt : j < n
    · obtain ⟨b, off, x, rfl, hg, hx, ⟨q0, q1⟩, hxs⟩ := (HR.out.below HW.out).at_ hlt
      obtain ⟨xn, xt⟩ := x
      dsimp only at q0 q1 hxs
      have HX := Lib.hid hx
      obtain ⟨cs, hs, hcs, hm⟩ := HJ.out
      have HSB := Lib.hid hs
      have HMM := Lib.hid hm
      have l0 : j * 2 < cs.size := by omega
      have l1 : j * 2 + 1 < cs.size := by omega
      have HL0 := Lib.hid l0
      have HL1 := Lib.hid l1
      have HCS := Lib.hid hcs
      clear hs hm hx hxs hg hcs l0 l1
      have b0 : (0 : Int) ≤ (j : Int) := by omega
      have b1 : (j : Int) < (n : Int) := by omega
      go_wp2_with (go_at_call 10; refine (toLine_any _ _ _).mono ?_; rintro e w1 ⟨rfl, hb⟩; have HB1 := Lib.hid hb; have HS1 : Hid (LB w1 W.heap.size cs) := HSB.out.below hb HZ.out; have p0 := (HS1.out.cell (j * 2)).trans (Array.getElem?_eq_getElem HL0.out); have p1 := (HS1.out.cell (j * 2 + 1)).trans (Array.getElem?_eq_getElem HL1.out); have z0 := HS1.out.frozen (j * 2); have z1 := HS1.out.frozen (j * 2 + 1); clear hb q0 q1)
      go_roundw
      case rel =>
        refine ⟨j + 1, by omega, by go_num, ?_, ?_, ?_⟩
        · exact ((HW.out.trans (HB1.out.mono (Nat.le_of_lt HZ.out))).setCell (Nat.le_refl _) _).setCell (Nat.le_refl _) _
        · have h1 := HB1.out.size
          have h2 := HZ.out
          show _ < _
          simp [World.setCell]
          omega
        · refine ⟨_, (HS1.out.set_ _ _).set_ _ _, by simpa using HCS.out, fun i q x v hi hxi hv => ?_⟩
          by_cases e : i = j
          · subst e
            rw [HX.out, Option.some.injEq] at hxi
            subst hxi
            exact put2_new HL1.out q v hv
          · have hq : q < 2 := (List.getElem?_eq_some_iff.1 hv).1
            rw [put2_old (by omega)]
            exact HMM.out i q x v (by omega) hxi hv
      case measure => simp [intOf]; omega
    · have HN : Hid (j = n) := by show _ = _; omega
      go_wp2_with fail
      go_ret
      refine ⟨_, rfl, Lib.hid ⟨⟨HR.out.1, fun _ => ⟨W.heap.size, rfl, HZ.out, fun i x hx => ?_⟩⟩, HW.out⟩⟩
      obtain ⟨cs, hs, hcs, hm⟩ := HJ.out
      have hil : i < xs.length := (List.getElem?_eq_some_iff.1 hx).1
      have hij : i < j := by have := HN.out; have := HR.out.1; omega
      exact ⟨(hs.cell _).trans (hm i 0 x _ hij hx rfl), (hs.cell _).trans (hm i 1 x _ hij hx rfl)⟩
end Go.Proofs.Ytfobjedobojbnab
