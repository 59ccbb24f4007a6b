/- An argument that is a slice of tokens: szTokenS, toTokenS. No condition. -/
import Derived.Test.YtfobjedobojbnabDoorToks
import Derived.Test.YtfobjedobojbnabDoorToken
import Derived.Test.YtfobjedobojbnabDoorListOf
import Derived.Laws.OwnMore
namespace Go.Proofs.YtfobjedobojbnabDoor
open Go Go.RowKit

/-- A slice of tokens that came in: its cells lie below B. -/
def TI (w : World) (B : Nat) (A : Option Addr) (n : Nat) (xs : List Tok) : Prop :=
  xs.length = n ∧ (0 < n → ∃ b off, A = some ⟨b, off, none⟩ ∧ b < B ∧ ∀ (j : Nat) (x : Tok), xs[j]? = some x → (w.cell? ⟨b, off + j * 5, none⟩ = some (.int .i64 x.k) ∧ w.cell? ⟨b, off + j * 5 + 1, none⟩ = some (.int .i64 x.n) ∧ w.cell? ⟨b, off + j * 5 + 2, none⟩ = some (.string x.t) ∧ w.cell? ⟨b, off + j * 5 + 3, none⟩ = some (.bool x.b) ∧ w.cell? ⟨b, off + j * 5 + 4, none⟩ = some (.bool x.a)) ∧ x.t.size ≤ maxLen)
theorem TI.below {w w' : World} {B n : Nat} {A : Option Addr} {xs : List Tok} (h : TI w B A n xs) (hb : Below B w w') : TI w' B A n xs :=
  ⟨h.1, fun hn => by
    obtain ⟨b, off, e, hg, hc⟩ := h.2 hn
    exact ⟨b, off, e, hg, fun j x hx => ⟨⟨(hb.cell (p := ⟨b, off + j * 5, none⟩) hg).trans (hc j x hx).1.1, (hb.cell (p := ⟨b, off + j * 5 + 1, none⟩) hg).trans (hc j x hx).1.2.1, (hb.cell (p := ⟨b, off + j * 5 + 2, none⟩) hg).trans (hc j x hx).1.2.2.1, (hb.cell (p := ⟨b, off + j * 5 + 3, none⟩) hg).trans (hc j x hx).1.2.2.2.1, (hb.cell (p := ⟨b, off + j * 5 + 4, none⟩) hg).trans (hc j x hx).1.2.2.2.2⟩, (hc j x hx).2⟩⟩⟩
theorem TI.more {w : World} {B B' n : Nat} {A : Option Addr} {xs : List Tok} (h : TI w B A n xs) (hB : B ≤ B') : TI w B' A n xs :=
  ⟨h.1, fun hn => by
    obtain ⟨b, off, e, hg, hc⟩ := h.2 hn
    exact ⟨b, off, e, by omega, hc⟩⟩
theorem TI.at_ {w : World} {B n k : Nat} {A : Option Addr} {xs : List Tok} (h : TI w B A n xs) (hk : k < n) : ∃ b off x, A = some ⟨b, off, none⟩ ∧ b < B ∧ xs[k]? = some x ∧ (w.cell? ⟨b, off + k * 5, none⟩ = some (.int .i64 x.k) ∧ w.cell? ⟨b, off + k * 5 + 1, none⟩ = some (.int .i64 x.n) ∧ w.cell? ⟨b, off + k * 5 + 2, none⟩ = some (.string x.t) ∧ w.cell? ⟨b, off + k * 5 + 3, none⟩ = some (.bool x.b) ∧ w.cell? ⟨b, off + k * 5 + 4, none⟩ = some (.bool x.a)) ∧ x.t.size ≤ maxLen := by
  obtain ⟨b, off, e, hg, hc⟩ := h.2 (by omega)
  have hl : k < xs.length := by rw [h.1]; exact hk
  exact ⟨b, off, xs[k], e, hg, List.getElem?_eq_getElem hl, hc k _ (List.getElem?_eq_getElem hl)⟩
theorem below_grown_none {w w' : World} (h : w.grownBy w' none) : Below w.heap.size w w' := (Below.refl _ _).grown h (Nat.le_refl _) (fun k hk => by cases hk)
theorem open_tokens {H : Type} {enc : TypeId × Value → H} {W : World} {A : Option Addr} {n c : Nat} {d : DataW H} {p : List MemPlace} (h : DataW.Trod enc Tryd.prog W 0 (fun _ => true) true 28 (.slice A n c) d p) :
    n ≤ maxLen ∧ ∃ xs, TI W W.heap.size A n xs := by
  obtain ⟨fuel, hf⟩ := h
  obtain ⟨hm, hc⟩ := open_structs Tryd.underlying28 Tryd.underlying54 (by kernel_rfl) (by kernel_rfl) (by decide) (by simpa [Value.cells] using hf)
  refine ⟨hm, ?_⟩
  by_cases hn : 0 < n
  · obtain ⟨b, off, e, hb, hi⟩ := hc hn
    obtain ⟨xs, hl, hx⟩ := list_of (α := Tok) (P := fun j x => (W.cell? ⟨b, off + j * 5, none⟩ = some (.int .i64 x.k) ∧ W.cell? ⟨b, off + j * 5 + 1, none⟩ = some (.int .i64 x.n) ∧ W.cell? ⟨b, off + j * 5 + 2, none⟩ = some (.string x.t) ∧ W.cell? ⟨b, off + j * 5 + 3, none⟩ = some (.bool x.b) ∧ W.cell? ⟨b, off + j * 5 + 4, none⟩ = some (.bool x.a)) ∧ x.t.size ≤ maxLen) (n := n) fun i hin => by
      obtain ⟨v0, y0, m0, c0, t0⟩ := hi i hin 0 _ rfl
      obtain ⟨v1, y1, m1, c1, t1⟩ := hi i hin 1 _ rfl
      obtain ⟨v2, y2, m2, c2, t2⟩ := hi i hin 2 _ rfl
      obtain ⟨v3, y3, m3, c3, t3⟩ := hi i hin 3 _ rfl
      obtain ⟨v4, y4, m4, c4, t4⟩ := hi i hin 4 _ rfl
      obtain ⟨z0, e0, _, _⟩ := DataW.trod_int Tryd.underlying2 t0
      obtain ⟨z1, e1, _, _⟩ := DataW.trod_int Tryd.underlying2 t1
      obtain ⟨z2, e2, _, hz⟩ := DataW.trod_string Tryd.underlying9 t2
      obtain ⟨z3, e3, _⟩ := DataW.trod_bool Tryd.underlying4 t3
      obtain ⟨z4, e4, _⟩ := DataW.trod_bool Tryd.underlying4 t4
      simp only [List.cons.injEq, and_true] at e0 e1 e2 e3 e4
      subst e0 e1 e2 e3 e4
      exact ⟨⟨z0, z1, z2, z3, z4⟩, ⟨c0, c1, c2, c3, c4⟩, hz⟩
    exact ⟨xs, hl, fun _ => ⟨b, off, e, hb, fun j x hj => hx j x hj⟩⟩
  · exact ⟨[], by simp; omega, fun h => absurd h hn⟩

/-- The texts' bytes of the first k tokens. -/
def sumT (xs : List Tok) : Nat → Nat
  | 0 => 0
  | k + 1 => sumT xs k + ((xs[k]?.map fun (x : Tok) => x.t.size).getD 0)
theorem sumT_next {xs : List Tok} {k : Nat} {x : Tok} (h : xs[k]? = some x) : sumT xs (k + 1) = sumT xs k + x.t.size := by
  rw [sumT, h]
  rfl
theorem sumT_mono {xs : List Tok} {j : Nat} : ∀ {k : Nat}, j ≤ k → sumT xs j ≤ sumT xs k
  | 0, h => by obtain rfl : j = 0 := by omega
               exact Nat.le_refl _
  | k + 1, h => by
    by_cases e : j = k + 1
    · rw [e]; exact Nat.le_refl _
    · have := sumT_mono (xs := xs) (show j ≤ k by omega)
      rw [sumT]
      omega
theorem sumT_at {xs : List Tok} {n k : Nat} {x : Tok} (h : xs[k]? = some x) (hk : k < n) : x.t.size ≤ sumT xs n := by
  have h1 := sumT_mono (xs := xs) (j := k + 1) (k := n) (by omega)
  rw [sumT_next h] at h1
  omega

theorem szToken_fitsL (k n : Int) (t : ByteArray) (b a : Bool) (L : Int) (W : World) (ht : (t.size : Int) ≤ L) (hL : L ≤ 1048576) :
    Calls Tryd.prog 36 #[.agg #[.int .i64 k, .int .i64 n, .string t, .bool b, .bool a], .int .i64 L] W fun e w' => e = .returned (.int .i64 (L - t.size)) ∧ Below W.heap.size W w' := by
  go_enter Tryd.func36, Tryd.ntmps36
  go_wp2
  all_goals go_ret
  all_goals exact ⟨rfl, (Below.refl _ _).alloc (Nat.le_refl _) _⟩
theorem szToken_longL (k n : Int) (t : ByteArray) (b a : Bool) (L : Int) (W : World) (ht : L < (t.size : Int)) (h0 : 0 ≤ L) (hL : L ≤ 1048576) (hm : t.size ≤ maxLen) :
    Calls Tryd.prog 36 #[.agg #[.int .i64 k, .int .i64 n, .string t, .bool b, .bool a], .int .i64 L] W fun e w' => e = .returned (.int .i64 (-1)) ∧ Below W.heap.size W w' := by
  unfold maxLen at hm
  go_enter Tryd.func36, Tryd.ntmps36
  go_wp2
  all_goals go_ret
  all_goals exact ⟨rfl, (Below.refl _ _).alloc (Nat.le_refl _) _⟩

/-- What szTokenS answers: what is left, or -1. -/
def SzT (xs : List Tok) (n : Nat) (W : World) (e : Ending) (w' : World) : Prop :=
  ((n + sumT xs n ≤ 1048576 ∧ e = .returned (.int .i64 (1048576 - (n : Int) - (sumT xs n : Int)))) ∨ (1048576 < n + sumT xs n ∧ e = .returned (.int .i64 (-1)))) ∧ Below W.heap.size W w'

set_option maxHeartbeats 1000000 in
set_option maxRecDepth 100000 in
theorem szTokenS_any (A : Option Addr) (n c : Nat) (xs : List Tok) (W : World) (hr : TI W W.heap.size A n xs) (hn : n ≤ maxLen) :
    Calls Tryd.prog 12 #[.slice A n c, .int .i64 1048576] W (SzT xs n W) := by
  have HR := Lib.hid hr
  clear hr
  unfold maxLen at hn
  by_cases hbig : 1048576 < n
  · have HB : Hid (1048576 < n + sumT xs n) := by show _ < _; omega
    have h1 : (1048576 : Int) < (n : Int) := by omega
    have h2 : (n : Int) ≤ 9223372036854775807 := by omega
    have d0 : decide ((1048576 : Int) - n < 0) = true := by simp; omega
    go_enter Tryd.func12, Tryd.ntmps12
    go_wp2_with fail
    go_ret
    exact ⟨.inr ⟨HB.out, rfl⟩, Below.refl _ _⟩
  · have h1 : (n : Int) ≤ 1048576 := by omega
    have hn' : n ≤ 1048576 := by omega
    have d0 : decide ((1048576 : Int) - n < 0) = false := by simp; omega
    clear hbig
    go_enter Tryd.func12, Tryd.ntmps12
    go_wp2_with fail
    go_loopw [1, 5] (fun q i wr => ∃ k : Nat, ∃ z : Int, k ≤ n ∧ i = .int .i64 k ∧ q = .int .i64 z ∧ 0 ≤ z ∧ z ≤ 1048576 ∧ Hid (z = 1048576 - (n : Int) - (sumT xs k : Int)) ∧ Hid (Below W.heap.size W wr)) (fun _ i _ => n - (intOf i).toNat)
    case atStart => exact ⟨0, _, Nat.zero_le _, rfl, rfl, by omega, by omega, by show _ = _; simp [sumT], Below.refl _ _⟩
    case round =>
      obtain ⟨k, z, hk, rfl, rfl, hz0, hz1, HZ, HW⟩ := hrel
      by_cases hlt : k < n
      · obtain ⟨b, off, x, rfl, hg, hx, ⟨q0, q1, q2, q3, q4⟩, hxs⟩ := (HR.out.below HW.out).at_ hlt
        obtain ⟨xk, xn, xt, xb, xa⟩ := x
        dsimp only at q0 q1 q2 q3 q4 hxs
        have HX := Lib.hid hx
        have HXS := Lib.hid hxs
        have b0 : (0 : Int) ≤ (k : Int) := by omega
        have b1 : (k : Int) < (n : Int) := by omega
        clear hx hxs hg
        by_cases hf : (xt.size : Int) ≤ z
        · have dz : decide (z - (xt.size : Int) < 0) = false := by simp; omega
          have HF : Hid ((xt.size : Int) ≤ z) := hf
          have HZ1 : Hid (z ≤ 1048576) := hz1
          have HS : Hid (sumT xs (k + 1) = sumT xs k + xt.size) := sumT_next HX.out
          go_wp2_with (go_at_call 36; refine (szToken_fitsL _ _ _ _ _ _ _ HF.out HZ1.out).mono ?_; rintro e w1 ⟨rfl, hb⟩; have HW1 : Hid (Below W.heap.size W w1) := HW.out.trans (hb.mono HW.out.size); clear hb)
          go_roundw
          case rel => exact ⟨k + 1, _, by omega, by go_num, rfl, by omega, by omega, by show _ = _; rw [HS.out, HZ.out]; omega, HW1⟩
          case measure => simp [intOf]; omega
        · have HF : Hid (z < (xt.size : Int)) := by show _ < _; omega
          have HZ0 : Hid (0 ≤ z) := hz0
          have HZ1 : Hid (z ≤ 1048576) := hz1
          have HBIG : Hid (1048576 < n + sumT xs n) := by
            show _ < _
            have h1 := sumT_mono (xs := xs) (j := k + 1) (k := n) (by omega)
            rw [sumT_next HX.out] at h1
            have h2 := HZ.out
            dsimp only at h1
            omega
          clear hf
          go_wp2_with (go_at_call 36; refine (szToken_longL _ _ _ _ _ _ _ HF.out HZ0.out HZ1.out HXS.out).mono ?_; rintro e w1 ⟨rfl, hb⟩; have HW1 : Hid (Below W.heap.size W w1) := HW.out.trans (hb.mono HW.out.size); clear hb)
          go_ret
          exact ⟨.inr ⟨HBIG.out, rfl⟩, HW1.out⟩
      · have hkn : k = n := by omega
        have HE : Hid (n + sumT xs n ≤ 1048576 ∧ z = 1048576 - (n : Int) - (sumT xs n : Int)) := by
          have h := HZ.out
          rw [hkn] at h
          exact ⟨by omega, h⟩
        go_wp2_with fail
        go_ret
        exact ⟨.inl ⟨HE.out.1, by rw [HE.out.2]; rfl⟩, HW.out⟩

/-- The elements of block g ahead of j are filled. -/
def FilledT (w : World) (g j n : Nat) (xs : List Tok) : Prop := ∃ cs, TB w g cs ∧ n * 5 ≤ cs.size ∧ ∀ (i q : Nat) (x : Tok) (v : Value), i < j → xs[i]? = some x → x.vs[q]? = some v → cs[i * 5 + q]? = some v
theorem put5_old {cs : Array Value} {b : Nat} {v0 v1 v2 v3 v4 : Value} {i : Nat} (h : i < b) : (((((cs.setIfInBounds b v0).setIfInBounds (b + 1) v1).setIfInBounds (b + 2) v2).setIfInBounds (b + 3) v3).setIfInBounds (b + 4) v4)[i]? = cs[i]? := by
  rw [Array.getElem?_setIfInBounds_ne (by omega), Array.getElem?_setIfInBounds_ne (by omega), Array.getElem?_setIfInBounds_ne (by omega), Array.getElem?_setIfInBounds_ne (by omega), Array.getElem?_setIfInBounds_ne (by omega)]
theorem put5_new {cs : Array Value} {b : Nat} {v0 v1 v2 v3 v4 : Value} (hb : b + 4 < cs.size) : ∀ (x : Nat) (v : Value), [v0, v1, v2, v3, v4][x]? = some v → (((((cs.setIfInBounds b v0).setIfInBounds (b + 1) v1).setIfInBounds (b + 2) v2).setIfInBounds (b + 3) v3).setIfInBounds (b + 4) v4)[b + x]? = some v
  | 0, v, h => by
    simp only [List.getElem?_cons_zero, List.getElem?_cons_succ, Option.some.injEq] at h
    subst h
    simp only [Nat.add_zero]
    rw [Array.getElem?_setIfInBounds_ne (by omega), Array.getElem?_setIfInBounds_ne (by omega), Array.getElem?_setIfInBounds_ne (by omega), Array.getElem?_setIfInBounds_ne (by omega), Array.getElem?_setIfInBounds_self_of_lt (by omega)]
  | 1, v, h => by
    simp only [List.getElem?_cons_zero, List.getElem?_cons_succ, Option.some.injEq] at h
    subst h
    rw [Array.getElem?_setIfInBounds_ne (by omega), Array.getElem?_setIfInBounds_ne (by omega), Array.getElem?_setIfInBounds_ne (by omega), Array.getElem?_setIfInBounds_self_of_lt (by simp only [Array.size_setIfInBounds]; omega)]
  | 2, v, h => by
    simp only [List.getElem?_cons_zero, List.getElem?_cons_succ, Option.some.injEq] at h
    subst h
    rw [Array.getElem?_setIfInBounds_ne (by omega), Array.getElem?_setIfInBounds_ne (by omega), Array.getElem?_setIfInBounds_self_of_lt (by simp only [Array.size_setIfInBounds]; omega)]
  | 3, v, h => by
    simp only [List.getElem?_cons_zero, List.getElem?_cons_succ, Option.some.injEq] at h
    subst h
    rw [Array.getElem?_setIfInBounds_ne (by omega), Array.getElem?_setIfInBounds_self_of_lt (by simp only [Array.size_setIfInBounds]; omega)]
  | 4, v, h => by
    simp only [List.getElem?_cons_zero, List.getElem?_cons_succ, Option.some.injEq] at h
    subst h
    rw [Array.getElem?_setIfInBounds_self_of_lt (by simp only [Array.size_setIfInBounds]; omega)]
  | x + 5, v, h => by simp at h
theorem tokInfo : (Tryd.prog.info? 44).map (fun i => (i.zero, i.size, i.bytes)) = some (some (Value.agg #[.int .i64 0, .int .i64 0, .string ⟨#[]⟩, .bool false, .bool false]), 5, 40) := by kernel_rfl
theorem block_of_own {w : World} {B g n : Nat} {xs : List Value} (h : w.ownsRow B 44 5 (.slice (some ⟨g, 0, none⟩) n n) n xs) : ∃ cs, TB w g cs ∧ n * 5 ≤ cs.size := by
  rcases h.2 with ⟨h', _⟩ | ⟨g', cap', cur, h', _, hg, _, _, hsz, _⟩
  · simp at h'
  · simp only [Value.slice.injEq, Option.some.injEq, Addr.mk.injEq, and_true, true_and] at h'
    obtain ⟨rfl, rfl⟩ := h'
    exact ⟨cur, hg, by omega⟩

/-- What toTokenS answers. -/
def ToT (xs : List Tok) (n : Nat) (W : World) (e : Ending) (w' : World) : Prop :=
  ∃ g, e = .returned (.slice (some ⟨g, 0, none⟩) n n) ∧ Hid (TR w' w'.heap.size (some ⟨g, 0, none⟩) n xs ∧ Below W.heap.size W w')

set_option maxHeartbeats 2000000 in
set_option maxRecDepth 100000 in
theorem toTokenS_any (A : Option Addr) (n c : Nat) (xs : List Tok) (W : World) (hr : TI W W.heap.size A n xs) (hn : n ≤ 1048576) :
    Calls Tryd.prog 14 #[.slice A n c] W (ToT xs n W) := by
  obtain ⟨i0, hi, hz0, hz1, hz2⟩ := info_parts tokInfo
  have HR := Lib.hid hr
  have h1 : (n : Int) ≤ 1048576 := by omega
  clear hr
  go_enter Tryd.func14, Tryd.ntmps14
  go_wp2_with (at_make; refine wpList_make_full _ rfl _ _ 31 rfl W.heap.size 44 i0 (.agg #[.int .i64 0, .int .i64 0, .string ⟨#[]⟩, .bool false, .bool false]) 5 Tryd.underlying31 hi hz0 hz1 .i64 .i64 n n n rfl rfl rfl rfl (by rw [hz2]; omega) (by unfold maxLen; omega) (Nat.le_refl _) ?_)
  intro w1 hown hgrow
  have HB1 : Hid (Below W.heap.size W w1) := below_grown_none hgrow
  obtain ⟨cs, hcs, hcn⟩ := block_of_own hown
  have HG : Hid (W.heap.size < w1.heap.size) := hcs.lt
  have HM : Hid (FilledT w1 W.heap.size 0 n xs) := ⟨cs, hcs, hcn, fun i q x v hi => absurd hi (by omega)⟩
  clear hown hgrow hcs hcn hi hz0 hz1 hz2
  go_wp2_with fail
  go_loopw [4] (fun i wr => ∃ j : Nat, j ≤ n ∧ i = .int .i64 j ∧ Hid (Below W.heap.size W wr) ∧ Hid (W.heap.size < wr.heap.size) ∧ Hid (FilledT wr W.heap.size j n xs)) (fun i _ => n - (intOf i).toNat)
  case atStart => exact ⟨0, Nat.zero_le _, rfl, HB1, HG, HM⟩
  case round =>
    obtain ⟨j, hj, rfl, HW, HZ, HJ⟩ := hrel
    by_cases hlt : j < n
    · obtain ⟨b, off, x, rfl, hg, hx, ⟨q0, q1, q2, q3, q4⟩, hxs⟩ := (HR.out.below HW.out).at_ hlt
      obtain ⟨xk, xn, xt, xb, xa⟩ := x
      dsimp only at q0 q1 q2 q3 q4 hxs
      have HX := Lib.hid hx
      obtain ⟨cs, hs, hcs, hm⟩ := HJ.out
      have HSB := Lib.hid hs
      have HMM := Lib.hid hm
      have l0 : j * 5 < cs.size := by omega
      have l1 : j * 5 + 1 < cs.size := by omega
      have l2 : j * 5 + 2 < cs.size := by omega
      have l3 : j * 5 + 3 < cs.size := by omega
      have l4 : j * 5 + 4 < cs.size := by omega
      have HL0 := Lib.hid l0
      have HL1 := Lib.hid l1
      have HL2 := Lib.hid l2
      have HL3 := Lib.hid l3
      have HL4 := Lib.hid l4
      have HCS := Lib.hid hcs
      clear hs hm hx hxs hg hcs l0 l1 l2 l3 l4
      have b0 : (0 : Int) ≤ (j : Int) := by omega
      have b1 : (j : Int) < (n : Int) := by omega
      go_wp2_with (go_at_call 39; refine (toToken_any _ _ _ _ _ _).mono ?_; rintro e w1 ⟨rfl, hb⟩; have HB1 := Lib.hid hb; have HS1 : Hid (TB w1 W.heap.size cs) := HSB.out.below hb HZ.out; have p0 := (HS1.out.cell (j * 5)).trans (Array.getElem?_eq_getElem HL0.out); have p1 := (HS1.out.cell (j * 5 + 1)).trans (Array.getElem?_eq_getElem HL1.out); have p2 := (HS1.out.cell (j * 5 + 2)).trans (Array.getElem?_eq_getElem HL2.out); have p3 := (HS1.out.cell (j * 5 + 3)).trans (Array.getElem?_eq_getElem HL3.out); have p4 := (HS1.out.cell (j * 5 + 4)).trans (Array.getElem?_eq_getElem HL4.out); have z0 := HS1.out.frozen (j * 5); have z1 := HS1.out.frozen (j * 5 + 1); have z2 := HS1.out.frozen (j * 5 + 2); have z3 := HS1.out.frozen (j * 5 + 3); have z4 := HS1.out.frozen (j * 5 + 4); clear hb q0 q1 q2 q3 q4)
      go_roundw
      case rel =>
        refine ⟨j + 1, by omega, by go_num, ?_, ?_, ?_⟩
        · exact (((((HW.out.trans (HB1.out.mono (Nat.le_of_lt HZ.out))).setCell (Nat.le_refl _) _).setCell (Nat.le_refl _) _).setCell (Nat.le_refl _) _).setCell (Nat.le_refl _) _).setCell (Nat.le_refl _) _
        · have h1 := HB1.out.size
          have h2 := HZ.out
          show _ < _
          simp [World.setCell]
          omega
        · refine ⟨_, ((((HS1.out.set_ _ _).set_ _ _).set_ _ _).set_ _ _).set_ _ _, by simpa using HCS.out, fun i q x v hi hxi hv => ?_⟩
          by_cases e : i = j
          · subst e
            rw [HX.out, Option.some.injEq] at hxi
            subst hxi
            exact put5_new HL4.out q v hv
          · have hq : q < 5 := (List.getElem?_eq_some_iff.1 hv).1
            rw [put5_old (by omega)]
            exact HMM.out i q x v (by omega) hxi hv
      case measure => simp [intOf]; omega
    · have HN : Hid (j = n) := by show _ = _; omega
      go_wp2_with fail
      go_ret
      refine ⟨_, rfl, Lib.hid ⟨⟨HR.out.1, fun _ => ⟨W.heap.size, rfl, HZ.out, fun i x hx => ?_⟩⟩, HW.out⟩⟩
      obtain ⟨cs, hs, hcs, hm⟩ := HJ.out
      have hil : i < xs.length := (List.getElem?_eq_some_iff.1 hx).1
      have hij : i < j := by have := HN.out; have := HR.out.1; omega
      exact ⟨(hs.cell _).trans (hm i 0 x _ hij hx rfl), (hs.cell _).trans (hm i 1 x _ hij hx rfl), (hs.cell _).trans (hm i 2 x _ hij hx rfl), (hs.cell _).trans (hm i 3 x _ hij hx rfl), (hs.cell _).trans (hm i 4 x _ hij hx rfl)⟩
end Go.Proofs.YtfobjedobojbnabDoor
