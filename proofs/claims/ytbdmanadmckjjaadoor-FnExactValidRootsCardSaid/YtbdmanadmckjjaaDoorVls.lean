/- Slices of values: what came in or lies below B; szValueS, toValueS, eqValueS of the laws. No condition. -/
import Derived.Test.YtbdmanadmckjjaaDoorBase
import Derived.Test.YtbdmanadmckjjaaDoorValSz
import Derived.Test.YtbdmanadmckjjaaDoorRw
namespace Go.Proofs.YtbdmanadmckjjaaDoor
open Go Go.RowKit

/-- A value. -/
structure Vl where
  k : Int
  n : Int
  t : ByteArray
  r : Int
/-- Its cells. -/
def Vl.vs (x : Vl) : List Value := [.int .i64 x.k, .int .i64 x.n, .string x.t, .int .i64 x.r]
/-- As one value. -/
abbrev Vl.ag (x : Vl) : Value := .agg #[.int .i64 x.k, .int .i64 x.n, .string x.t, .int .i64 x.r]
/-- The four cells from o on of block b. -/
def V4o (w : World) (b o : Nat) (x : Vl) : Prop :=
  w.cell? ⟨b, o, none⟩ = some (.int .i64 x.k) ∧ w.cell? ⟨b, o + 1, none⟩ = some (.int .i64 x.n) ∧ w.cell? ⟨b, o + 2, none⟩ = some (.string x.t) ∧ w.cell? ⟨b, o + 3, none⟩ = some (.int .i64 x.r)
theorem V4o.below {w w' : World} {b o B : Nat} {x : Vl} (h : V4o w b o x) (hb : Below B w w') (hg : b < B) : V4o w' b o x :=
  ⟨(hb.cell (p := ⟨b, o, none⟩) hg).trans h.1, (hb.cell (p := ⟨b, o + 1, none⟩) hg).trans h.2.1, (hb.cell (p := ⟨b, o + 2, none⟩) hg).trans h.2.2.1, (hb.cell (p := ⟨b, o + 3, none⟩) hg).trans h.2.2.2⟩
/-- A slice of values whose cells lie below B. -/
def VI (w : World) (B : Nat) (A : Option Addr) (n : Nat) (xs : List Vl) : Prop :=
  xs.length = n ∧ n ≤ maxLen ∧ (0 < n → ∃ b off, A = some ⟨b, off, none⟩ ∧ b < B ∧ ∀ (j : Nat) (x : Vl), xs[j]? = some x → V4o w b (off + j * 4) x ∧ x.t.size ≤ maxLen)
theorem VI.below {w w' : World} {B n : Nat} {A : Option Addr} {xs : List Vl} (h : VI w B A n xs) (hb : Below B w w') : VI w' B A n xs :=
  ⟨h.1, h.2.1, fun hn => by
    obtain ⟨b, off, e, hg, hc⟩ := h.2.2 hn
    exact ⟨b, off, e, hg, fun j x hx => ⟨(hc j x hx).1.below hb hg, (hc j x hx).2⟩⟩⟩
theorem VI.more {w : World} {B B' n : Nat} {A : Option Addr} {xs : List Vl} (h : VI w B A n xs) (hB : B ≤ B') : VI w B' A n xs :=
  ⟨h.1, h.2.1, fun hn => by
    obtain ⟨b, off, e, hg, hc⟩ := h.2.2 hn
    exact ⟨b, off, e, by omega, hc⟩⟩
theorem VI.nil (w : World) (B : Nat) (A : Option Addr) : VI w B A 0 [] := ⟨rfl, Nat.zero_le _, fun h => absurd h (by omega)⟩
theorem VI.at_ {w : World} {B n k : Nat} {A : Option Addr} {xs : List Vl} (h : VI w B A n xs) (hk : k < n) : ∃ b off x, A = some ⟨b, off, none⟩ ∧ b < B ∧ xs[k]? = some x ∧ V4o w b (off + k * 4) x ∧ x.t.size ≤ maxLen := by
  obtain ⟨b, off, e, hg, hc⟩ := h.2.2 (by omega)
  have hl : k < xs.length := by rw [h.1]; exact hk
  exact ⟨b, off, xs[k], e, hg, List.getElem?_eq_getElem hl, hc k _ (List.getElem?_eq_getElem hl)⟩
/-- A part from the head. -/
theorem VI.take {w : World} {B n : Nat} {A : Option Addr} {xs : List Vl} (h : VI w B A n xs) {k : Nat} (hk : k ≤ n) : VI w B A k (xs.take k) :=
  ⟨by rw [List.length_take, h.1]; omega, Nat.le_trans hk h.2.1, fun hn => by
    obtain ⟨b, off, e, hg, hc⟩ := h.2.2 (by omega)
    refine ⟨b, off, e, hg, fun j x hx => hc j x ?_⟩
    rw [List.getElem?_take] at hx
    split at hx
    · exact hx
    · cases hx⟩
section
variable {H : Type} {enc : TypeId × Value → H} {W : World} {base : Nat} {held : Bool}
theorem open_valuesF {A : Option Addr} {n c fuel : Nat} {x : DataW H × List MemPlace} (hf : DataW.trod enc Tryd.prog W base (fun _ => true) held fuel 41 [.slice A n c] = some x) :
    ∃ xs, VI W W.heap.size A n xs := by
  obtain ⟨hm, hc⟩ := open_structs Tryd.underlying41 Tryd.underlying34 (by kernel_rfl) (by kernel_rfl) (by decide) hf
  by_cases hn : 0 < n
  · obtain ⟨b, off, e, hb, hi⟩ := hc hn
    obtain ⟨xs, hl, hx⟩ := list_of (α := Vl) (P := fun j x => V4o W b (off + j * 4) x ∧ x.t.size ≤ maxLen) (n := n) fun i hin => by
      obtain ⟨v0, y0, m0, c0, t0⟩ := hi i hin 0 _ rfl
      obtain ⟨v1, y1, m1, c1, t1⟩ := hi i hin 1 _ rfl
      obtain ⟨v2, y2, m2, c2, t2⟩ := hi i hin 2 _ rfl
      obtain ⟨v3, y3, m3, c3, t3⟩ := hi i hin 3 _ rfl
      obtain ⟨z0, e0, _, _⟩ := DataW.trod_int Tryd.underlying2 t0
      obtain ⟨z1, e1, _, _⟩ := DataW.trod_int Tryd.underlying2 t1
      obtain ⟨z2, e2, _, hz⟩ := DataW.trod_string Tryd.underlying9 t2
      obtain ⟨z3, e3, _, _⟩ := DataW.trod_int Tryd.underlying2 t3
      simp only [List.cons.injEq, and_true] at e0 e1 e2 e3
      subst e0 e1 e2 e3
      exact ⟨⟨z0, z1, z2, z3⟩, ⟨c0, c1, c2, c3⟩, hz⟩
    exact ⟨xs, hl, hm, fun _ => ⟨b, off, e, hb, fun j x hj => hx j x hj⟩⟩
  · exact ⟨[], by simp; omega, hm, fun h => absurd h hn⟩
end
theorem open_values {H : Type} {enc : TypeId × Value → H} {W : World} {A : Option Addr} {n c : Nat} {d : DataW H} {p : List MemPlace} (h : DataW.Trod enc Tryd.prog W 0 (fun _ => true) true 41 (.slice A n c) d p) :
    ∃ xs, VI W W.heap.size A n xs := by
  obtain ⟨fuel, hf⟩ := h
  exact open_valuesF (by simpa [Value.cells] using hf)

/-- The texts' bytes of the first k values. -/
def sumV (xs : List Vl) : Nat → Nat
  | 0 => 0
  | k + 1 => sumV xs k + ((xs[k]?.map fun (x : Vl) => x.t.size).getD 0)
theorem sumV_next {xs : List Vl} {k : Nat} {x : Vl} (h : xs[k]? = some x) : sumV xs (k + 1) = sumV xs k + x.t.size := by
  rw [sumV, h]
  rfl
theorem sumV_mono {xs : List Vl} {j : Nat} : ∀ {k : Nat}, j ≤ k → sumV xs j ≤ sumV xs k
  | 0, h => by obtain rfl : j = 0 := by omega
               exact Nat.le_refl _
  | k + 1, h => by
    by_cases e : j = k + 1
    · rw [e]; exact Nat.le_refl _
    · have := sumV_mono (xs := xs) (show j ≤ k by omega)
      rw [sumV]
      omega
/-- What szValueS takes of the bound. -/
def szV (xs : List Vl) : Nat := xs.length + sumV xs xs.length

theorem szValue_L (x : Vl) (L : Int) (W : World) (h0 : 0 ≤ L) (hL : L ≤ 1048576) (hm : x.t.size ≤ maxLen) :
    Calls Tryd.prog 15 #[x.ag, .int .i64 L] W (SzL x.t.size L W) := by
  obtain ⟨k, n, t, r⟩ := x
  by_cases h : (t.size : Int) ≤ L
  · exact (szValue_fits k n t r L W h hL).mono fun e w' ⟨he, hb⟩ => ⟨.inl ⟨h, he⟩, hb⟩
  · exact (szValue_long k n t r L W (by omega) h0 hL hm).mono fun e w' ⟨he, hb⟩ => ⟨.inr ⟨by dsimp only; omega, he⟩, hb⟩

set_option maxHeartbeats 1000000 in
set_option maxRecDepth 100000 in
theorem szValueS_any (A : Option Addr) (n c : Nat) (xs : List Vl) (L : Int) (W : World) (hr : VI W W.heap.size A n xs) (h0 : 0 ≤ L) (hL : L ≤ 1048576) :
    Calls Tryd.prog 21 #[.slice A n c, .int .i64 L] W (SzL (szV xs) L W) := by
  have HR := Lib.hid hr
  have hn := hr.2.1
  have hxn := hr.1
  clear hr
  obtain ⟨s, hs⟩ : ∃ s, szV xs = s := ⟨_, rfl⟩
  have HS : Hid (s = n + sumV xs n) := by show _ = _; rw [← hs, szV, hxn]
  rw [hs]
  clear hs hxn
  unfold maxLen at hn
  by_cases hbig : L < (n : Int)
  · have HB : Hid (L < (s : Int)) := by show _ < _; have := HS.out; omega
    have h2 : (n : Int) ≤ 9223372036854775807 := by omega
    have d0 : decide (L - n < 0) = true := by simp; omega
    go_enter Tryd.func21, Tryd.ntmps21
    go_wp2_with fail
    go_ret
    exact ⟨.inr ⟨HB.out, rfl⟩, Below.refl _ _⟩
  · have h1 : (n : Int) ≤ L := by omega
    have hn' : n ≤ 1048576 := by omega
    have d0 : decide (L - n < 0) = false := by simp; omega
    clear hbig
    go_enter Tryd.func21, Tryd.ntmps21
    go_wp2_with fail
    go_loopw [1, 5] (fun q i wr => ∃ k : Nat, ∃ z : Int, k ≤ n ∧ i = .int .i64 k ∧ q = .int .i64 z ∧ 0 ≤ z ∧ z ≤ 1048576 ∧ Hid (z = L - (n : Int) - (sumV xs k : Int)) ∧ Hid (Below W.heap.size W wr)) (fun _ i _ => n - (intOf i).toNat)
    case atStart => exact ⟨0, _, Nat.zero_le _, rfl, rfl, by omega, by omega, by show _ = _; simp [sumV], Below.refl _ _⟩
    case round =>
      obtain ⟨k, z, hk, rfl, rfl, hz0, hz1, HZ, HW⟩ := hrel
      by_cases hlt : k < n
      · obtain ⟨b, off, x, rfl, hg, hx, ⟨q0, q1, q2, q3⟩, hxs⟩ := (HR.out.below HW.out).at_ hlt
        obtain ⟨xk, xn, xt, xr⟩ := x
        dsimp only at q0 q1 q2 q3 hxs
        have HX := Lib.hid hx
        have HXS := Lib.hid hxs
        have b0 : (0 : Int) ≤ (k : Int) := by omega
        have b1 : (k : Int) < (n : Int) := by omega
        clear hx hxs hg
        by_cases hf : (xt.size : Int) ≤ z
        · have dz : decide (z - (xt.size : Int) < 0) = false := by simp; omega
          have HF : Hid ((xt.size : Int) ≤ z) := hf
          have HZ1 : Hid (z ≤ 1048576) := hz1
          have HN : Hid (sumV xs (k + 1) = sumV xs k + xt.size) := sumV_next HX.out
          go_wp2_with (go_at_call 15; refine (szValue_fits _ _ _ _ _ _ HF.out HZ1.out).mono ?_; rintro e w1 ⟨rfl, hb⟩; have HW1 : Hid (Below W.heap.size W w1) := HW.out.trans (hb.mono HW.out.size); clear hb)
          go_roundw
          case rel => exact ⟨k + 1, _, by omega, by go_num, rfl, by omega, by omega, by show _ = _; rw [HN.out, HZ.out]; omega, HW1⟩
          case measure => simp [intOf]; omega
        · have HF : Hid (z < (xt.size : Int)) := by show _ < _; omega
          have HZ0 : Hid (0 ≤ z) := hz0
          have HZ1 : Hid (z ≤ 1048576) := hz1
          have HBIG : Hid (L < (s : Int)) := by
            show _ < _
            have h1 := sumV_mono (xs := xs) (j := k + 1) (k := n) (by omega)
            rw [sumV_next HX.out] at h1
            have h2 := HZ.out
            have h3 := HS.out
            dsimp only at h1
            omega
          clear hf
          go_wp2_with (go_at_call 15; refine (szValue_long _ _ _ _ _ _ HF.out HZ0.out HZ1.out HXS.out).mono ?_; rintro e w1 ⟨rfl, hb⟩; have HW1 : Hid (Below W.heap.size W w1) := HW.out.trans (hb.mono HW.out.size); clear hb)
          go_ret
          exact ⟨.inr ⟨HBIG.out, rfl⟩, HW1.out⟩
      · have hkn : k = n := by omega
        have HE : Hid ((s : Int) ≤ L ∧ z = L - (s : Int)) := by
          have h := HZ.out
          have h3 := HS.out
          rw [hkn] at h
          exact ⟨by omega, by omega⟩
        go_wp2_with fail
        go_ret
        exact ⟨.inl ⟨HE.out.1, by rw [HE.out.2]; rfl⟩, HW.out⟩

/-- Block g of values is known: its cells, none frozen. -/
def VB (w : World) (g : Nat) (cs : Array Value) : Prop := w.heap[g]? = some (.cells cs 37 (0, 0))
section
variable {w w' : World} {g : Nat} {cs : Array Value}
theorem VB.lt (h : VB w g cs) : g < w.heap.size := by
  rcases Nat.lt_or_ge g w.heap.size with hlt | hge
  · exact hlt
  · unfold VB at h; rw [Array.getElem?_eq_none hge] at h; cases h
theorem VB.cell (h : VB w g cs) (i : Nat) : w.cell? ⟨g, i, none⟩ = cs[i]? := cell_of_row w g i cs _ (0, 0) h
theorem VB.frozen (h : VB w g cs) (i : Nat) : w.frozen? ⟨g, i, none⟩ = false := by
  unfold VB at h
  simp [World.frozen?, h]
theorem VB.set_ (h : VB w g cs) (i : Nat) (u : Value) : VB (w.setCell ⟨g, i, none⟩ u) g (cs.setIfInBounds i u) := by
  unfold VB at h ⊢
  simp [World.setCell, Array.getElem?_modify, h]
theorem VB.below {B : Nat} (h : VB w g cs) (hb : Below B w w') (hg : g < B) : VB w' g cs := (hb.block g hg).trans h
end
/-- The elements of block g ahead of j are filled. -/
def FilledV (w : World) (g j n : Nat) (xs : List Vl) : Prop := ∃ cs, VB w g cs ∧ n * 4 ≤ cs.size ∧ ∀ (i q : Nat) (x : Vl) (v : Value), i < j → xs[i]? = some x → x.vs[q]? = some v → cs[i * 4 + q]? = some v
theorem put4_old {cs : Array Value} {b : Nat} {v0 v1 v2 v3 : Value} {i : Nat} (h : i < b) : ((((cs.setIfInBounds b v0).setIfInBounds (b + 1) v1).setIfInBounds (b + 2) v2).setIfInBounds (b + 3) v3)[i]? = cs[i]? := by
  rw [Array.getElem?_setIfInBounds_ne (by omega), Array.getElem?_setIfInBounds_ne (by omega), Array.getElem?_setIfInBounds_ne (by omega), Array.getElem?_setIfInBounds_ne (by omega)]
theorem put4_new {cs : Array Value} {b : Nat} {v0 v1 v2 v3 : Value} (hb : b + 3 < cs.size) : ∀ (x : Nat) (v : Value), [v0, v1, v2, v3][x]? = some v → ((((cs.setIfInBounds b v0).setIfInBounds (b + 1) v1).setIfInBounds (b + 2) v2).setIfInBounds (b + 3) v3)[b + x]? = some v
  | 0, v, h => by
    simp only [List.getElem?_cons_zero, List.getElem?_cons_succ, Option.some.injEq] at h
    subst h
    simp only [Nat.add_zero]
    rw [Array.getElem?_setIfInBounds_ne (by omega), Array.getElem?_setIfInBounds_ne (by omega), Array.getElem?_setIfInBounds_ne (by omega), Array.getElem?_setIfInBounds_self_of_lt (by omega)]
  | 1, v, h => by
    simp only [List.getElem?_cons_zero, List.getElem?_cons_succ, Option.some.injEq] at h
    subst h
    rw [Array.getElem?_setIfInBounds_ne (by omega), Array.getElem?_setIfInBounds_ne (by omega), Array.getElem?_setIfInBounds_self_of_lt (by simp only [Array.size_setIfInBounds]; omega)]
  | 2, v, h => by
    simp only [List.getElem?_cons_zero, List.getElem?_cons_succ, Option.some.injEq] at h
    subst h
    rw [Array.getElem?_setIfInBounds_ne (by omega), Array.getElem?_setIfInBounds_self_of_lt (by simp only [Array.size_setIfInBounds]; omega)]
  | 3, v, h => by
    simp only [List.getElem?_cons_zero, List.getElem?_cons_succ, Option.some.injEq] at h
    subst h
    rw [Array.getElem?_setIfInBounds_self_of_lt (by simp only [Array.size_setIfInBounds]; omega)]
  | x + 4, v, h => by simp at h
theorem valInfo : (Tryd.prog.info? 37).map (fun i => (i.zero, i.size, i.bytes)) = some (some (Value.agg #[.int .i64 0, .int .i64 0, .string ⟨#[]⟩, .int .i64 0]), 4, 40) := by kernel_rfl
theorem block_of_ownV {w : World} {B g n : Nat} {xs : List Value} (h : w.ownsRow B 37 4 (.slice (some ⟨g, 0, none⟩) n n) n xs) : ∃ cs, VB w g cs ∧ n * 4 ≤ cs.size := by
  rcases h.2 with ⟨h', _⟩ | ⟨g', cap', cur, h', _, hg, _, _, hsz, _⟩
  · simp at h'
  · simp only [Value.slice.injEq, Option.some.injEq, Addr.mk.injEq, and_true, true_and] at h'
    obtain ⟨rfl, rfl⟩ := h'
    exact ⟨cur, hg, by omega⟩

/-- What toValueS answers: a slice at the head of the first new block. -/
def ToV (xs : List Vl) (n : Nat) (W : World) (e : Ending) (w' : World) : Prop :=
  e = .returned (.slice (some ⟨W.heap.size, 0, none⟩) n n) ∧ Hid (VI w' w'.heap.size (some ⟨W.heap.size, 0, none⟩) n xs ∧ Below W.heap.size W w')

set_option maxHeartbeats 2000000 in
set_option maxRecDepth 100000 in
theorem toValueS_any (A : Option Addr) (n c : Nat) (xs : List Vl) (W : World) (hr : VI W W.heap.size A n xs) (hn : n ≤ 1048576) :
    Calls Tryd.prog 23 #[.slice A n c] W (ToV xs n W) := by
  obtain ⟨i0, hi, hz0, hz1, hz2⟩ := info_parts valInfo
  have HR := Lib.hid hr
  have h1 : (n : Int) ≤ 1048576 := by omega
  clear hr
  go_enter Tryd.func23, Tryd.ntmps23
  go_wp2_with (at_make; refine wpList_make_full _ rfl _ _ 44 rfl W.heap.size 37 i0 (.agg #[.int .i64 0, .int .i64 0, .string ⟨#[]⟩, .int .i64 0]) 4 Tryd.underlying44 hi hz0 hz1 .i64 .i64 n n n rfl rfl rfl rfl (by rw [hz2]; omega) (by unfold maxLen; omega) (Nat.le_refl _) ?_)
  intro w1 hown hgrow
  have HB1 : Hid (Below W.heap.size W w1) := below_grown_none hgrow
  obtain ⟨cs, hcs, hcn⟩ := block_of_ownV hown
  have HG : Hid (W.heap.size < w1.heap.size) := hcs.lt
  have HM : Hid (FilledV w1 W.heap.size 0 n xs) := ⟨cs, hcs, hcn, fun i q x v hi => absurd hi (by omega)⟩
  clear hown hgrow hcs hcn hi hz0 hz1 hz2
  go_wp2_with fail
  go_loopw [4] (fun i wr => ∃ j : Nat, j ≤ n ∧ i = .int .i64 j ∧ Hid (Below W.heap.size W wr) ∧ Hid (W.heap.size < wr.heap.size) ∧ Hid (FilledV wr W.heap.size j n xs)) (fun i _ => n - (intOf i).toNat)
  case atStart => exact ⟨0, Nat.zero_le _, rfl, HB1, HG, HM⟩
  case round =>
    obtain ⟨j, hj, rfl, HW, HZ, HJ⟩ := hrel
    by_cases hlt : j < n
    · obtain ⟨b, off, x, rfl, hg, hx, ⟨q0, q1, q2, q3⟩, hxs⟩ := (HR.out.below HW.out).at_ hlt
      obtain ⟨xk, xn, xt, xr⟩ := x
      dsimp only at q0 q1 q2 q3 hxs
      have HX := Lib.hid hx
      obtain ⟨cs, hs, hcs, hm⟩ := HJ.out
      have HSB := Lib.hid hs
      have HMM := Lib.hid hm
      have l0 : j * 4 < cs.size := by omega
      have l1 : j * 4 + 1 < cs.size := by omega
      have l2 : j * 4 + 2 < cs.size := by omega
      have l3 : j * 4 + 3 < cs.size := by omega
      have HL0 := Lib.hid l0
      have HL1 := Lib.hid l1
      have HL2 := Lib.hid l2
      have HL3 := Lib.hid l3
      have HCS := Lib.hid hcs
      clear hs hm hx hxs hg hcs l0 l1 l2 l3
      have b0 : (0 : Int) ≤ (j : Int) := by omega
      have b1 : (j : Int) < (n : Int) := by omega
      go_wp2_with (go_at_call 17; refine (toValue_any _ _ _ _ _).mono ?_; rintro e w1 ⟨rfl, hb⟩; have HB1 := Lib.hid hb; have HS1 : Hid (VB w1 W.heap.size cs) := HSB.out.below hb HZ.out; have p0 := (HS1.out.cell (j * 4)).trans (Array.getElem?_eq_getElem HL0.out); have p1 := (HS1.out.cell (j * 4 + 1)).trans (Array.getElem?_eq_getElem HL1.out); have p2 := (HS1.out.cell (j * 4 + 2)).trans (Array.getElem?_eq_getElem HL2.out); have p3 := (HS1.out.cell (j * 4 + 3)).trans (Array.getElem?_eq_getElem HL3.out); have z0 := HS1.out.frozen (j * 4); have z1 := HS1.out.frozen (j * 4 + 1); have z2 := HS1.out.frozen (j * 4 + 2); have z3 := HS1.out.frozen (j * 4 + 3); clear hb q0 q1 q2 q3)
      go_roundw
      case rel =>
        refine ⟨j + 1, by omega, by go_num, ?_, ?_, ?_⟩
        · exact ((((HW.out.trans (HB1.out.mono (Nat.le_of_lt HZ.out))).setCell (Nat.le_refl _) _).setCell (Nat.le_refl _) _).setCell (Nat.le_refl _) _).setCell (Nat.le_refl _) _
        · have h1 := HB1.out.size
          have h2 := HZ.out
          show _ < _
          simp [World.setCell]
          omega
        · refine ⟨_, (((HS1.out.set_ _ _).set_ _ _).set_ _ _).set_ _ _, by simpa using HCS.out, fun i q x v hi hxi hv => ?_⟩
          by_cases e : i = j
          · subst e
            rw [HX.out, Option.some.injEq] at hxi
            subst hxi
            exact put4_new HL3.out q v hv
          · have hq : q < 4 := (List.getElem?_eq_some_iff.1 hv).1
            rw [put4_old (by omega)]
            exact HMM.out i q x v (by omega) hxi hv
      case measure => simp [intOf]; omega
    · have HN : Hid (j = n) := by show _ = _; omega
      go_wp2_with fail
      go_ret
      refine ⟨rfl, Lib.hid ⟨⟨HR.out.1, HR.out.2.1, fun _ => ⟨W.heap.size, 0, rfl, HZ.out, fun i x hx => ?_⟩⟩, HW.out⟩⟩
      obtain ⟨cs, hs, hcs, hm⟩ := HJ.out
      have hil : i < xs.length := (List.getElem?_eq_some_iff.1 hx).1
      have hij : i < j := by have := HN.out; have := HR.out.1; omega
      have hxs : x.t.size ≤ maxLen := by
        obtain ⟨_, _, _, _, hc⟩ := HR.out.2.2 (by have := HR.out.1; omega)
        exact (hc i x hx).2
      rw [Nat.zero_add]
      exact ⟨⟨(hs.cell _).trans (hm i 0 x _ hij hx rfl), (hs.cell _).trans (hm i 1 x _ hij hx rfl), (hs.cell _).trans (hm i 2 x _ hij hx rfl), (hs.cell _).trans (hm i 3 x _ hij hx rfl)⟩, hxs⟩
end Go.Proofs.YtbdmanadmckjjaaDoor
