/- Slices of Capture: what came in or lies below B; szCaptureS, toCaptureS of the laws. No condition. -/
import Derived.Test.YtnneidpdfommjaaRw
namespace Go.Proofs.Ytnneidpdfommjaa
open Go Go.RowKit

/-- A Capture. -/
structure Cp where
  name_ : ByteArray
  text_ : ByteArray
  cursor_ : Int
  kind_ : Int
/-- Its cells. -/
def Cp.vs (x : Cp) : List Value := [.string x.name_, .string x.text_, .int .i64 x.cursor_, .int .i64 x.kind_]
/-- As one value. -/
abbrev Cp.ag (x : Cp) : Value := .agg #[.string x.name_, .string x.text_, .int .i64 x.cursor_, .int .i64 x.kind_]
/-- The cells from o on of block b. -/
def CpAt (w : World) (b o : Nat) (x : Cp) : Prop :=
  w.cell? ⟨b, o, none⟩ = some (.string x.name_) ∧ w.cell? ⟨b, o + 1, none⟩ = some (.string x.text_) ∧ w.cell? ⟨b, o + 2, none⟩ = some (.int .i64 x.cursor_) ∧ w.cell? ⟨b, o + 3, none⟩ = some (.int .i64 x.kind_)
theorem CpAt.below {w w' : World} {b o B : Nat} {x : Cp} (h : CpAt w b o x) (hb : Below B w w') (hg : b < B) : CpAt w' b o x := by
  obtain ⟨h0, h1, h2, h3⟩ := h
  exact ⟨(hb.cell (p := ⟨b, o, none⟩) hg).trans h0, (hb.cell (p := ⟨b, o + 1, none⟩) hg).trans h1, (hb.cell (p := ⟨b, o + 2, none⟩) hg).trans h2, (hb.cell (p := ⟨b, o + 3, none⟩) hg).trans h3⟩
theorem CpAt.other {w : World} {b o : Nat} {x : Cp} (h : CpAt w b o x) {p : Addr} (hp : b ≠ p.block) (u : Value) : CpAt (w.setCell p u) b o x := by
  have k : ∀ i, (w.setCell p u).cell? ⟨b, i, none⟩ = w.cell? ⟨b, i, none⟩ := fun i => World.cell?_setCell_other w p ⟨b, i, none⟩ u (fun e => hp (by rw [e]))
  obtain ⟨h0, h1, h2, h3⟩ := h
  exact ⟨(k _).trans h0, (k _).trans h1, (k _).trans h2, (k _).trans h3⟩
theorem CpAt.range {w : World} {b o : Nat} {x : Cp} (h : CpAt w b o x) : w.rangeAt b o x.vs := by
  obtain ⟨h0, h1, h2, h3⟩ := h
  intro j v hj
  match j, hj with
  | 0, hj => cases hj; exact h0
  | 1, hj => cases hj; exact h1
  | 2, hj => cases hj; exact h2
  | 3, hj => cases hj; exact h3
  | j + 4, hj => simp [Cp.vs] at hj
/-- A slice of Capture whose cells lie below B. -/
def CpI (w : World) (B : Nat) (A : Option Addr) (n : Nat) (xs : List Cp) : Prop :=
  xs.length = n ∧ n ≤ maxLen ∧ (0 < n → ∃ b off, A = some ⟨b, off, none⟩ ∧ b < B ∧ ∀ (j : Nat) (x : Cp), xs[j]? = some x → CpAt w b (off + j * 4) x ∧ x.name_.size ≤ maxLen ∧ x.text_.size ≤ maxLen)
theorem CpI.below {w w' : World} {B n : Nat} {A : Option Addr} {xs : List Cp} (h : CpI w B A n xs) (hb : Below B w w') : CpI w' B A n xs :=
  ⟨h.1, h.2.1, fun hn => by
    obtain ⟨b, off, e, hg, hc⟩ := h.2.2 hn
    exact ⟨b, off, e, hg, fun j x hx => ⟨(hc j x hx).1.below hb hg, (hc j x hx).2⟩⟩⟩
theorem CpI.more {w : World} {B B' n : Nat} {A : Option Addr} {xs : List Cp} (h : CpI w B A n xs) (hB : B ≤ B') : CpI w B' A n xs :=
  ⟨h.1, h.2.1, fun hn => by
    obtain ⟨b, off, e, hg, hc⟩ := h.2.2 hn
    exact ⟨b, off, e, by omega, hc⟩⟩
theorem CpI.nil (w : World) (B : Nat) (A : Option Addr) : CpI w B A 0 [] := ⟨rfl, Nat.zero_le _, fun h => absurd h (by omega)⟩
theorem CpI.at_ {w : World} {B n k : Nat} {A : Option Addr} {xs : List Cp} (h : CpI w B A n xs) (hk : k < n) : ∃ b off x, A = some ⟨b, off, none⟩ ∧ b < B ∧ xs[k]? = some x ∧ CpAt w b (off + k * 4) x ∧ x.name_.size ≤ maxLen ∧ x.text_.size ≤ maxLen := by
  obtain ⟨b, off, e, hg, hc⟩ := h.2.2 (by omega)
  have hl : k < xs.length := by rw [h.1]; exact hk
  exact ⟨b, off, xs[k], e, hg, List.getElem?_eq_getElem hl, hc k _ (List.getElem?_eq_getElem hl)⟩
theorem CpI.alloc {W : World} {A : Option Addr} {n : Nat} {xs : List Cp} (h : CpI W W.heap.size A n xs) (o : Obj) : CpI (W.alloc o) (W.alloc o).heap.size A n xs := (h.below (below_alloc W o)).more (by simp)
theorem CpI.go {W w : World} {A : Option Addr} {n : Nat} {xs : List Cp} (h : CpI W W.heap.size A n xs) (hb : Below W.heap.size W w) : CpI w w.heap.size A n xs := (h.below hb).more hb.size
theorem CpI.other {w : World} {B n b off : Nat} {xs : List Cp} (h : CpI w B (some ⟨b, off, none⟩) n xs) {p : Addr} (hp : b ≠ p.block) (u : Value) : CpI (w.setCell p u) B (some ⟨b, off, none⟩) n xs :=
  ⟨h.1, h.2.1, fun hn => by
    obtain ⟨b', off', e, hg, hc⟩ := h.2.2 hn
    simp only [Option.some.injEq, Addr.mk.injEq, and_true] at e
    obtain ⟨rfl, rfl⟩ := e
    exact ⟨b, off, rfl, hg, fun j x hx => ⟨(hc j x hx).1.other hp u, (hc j x hx).2⟩⟩⟩
theorem CpI.others {B n b off : Nat} {xs : List Cp} {g : Nat} (hp : b ≠ g) : ∀ {vs : List Value} {w : World} {o : Nat}, CpI w B (some ⟨b, off, none⟩) n xs → CpI (w.setCells g o vs) B (some ⟨b, off, none⟩) n xs
  | [], _, _, h => h
  | v :: r, w, o, h => CpI.others hp (vs := r) (h.other (p := ⟨g, o, none⟩) hp v)
theorem CpI.row {w : World} {B n b off : Nat} {xs : List Cp} {g : Nat} (h : CpI w B (some ⟨b, off, none⟩) n xs) (hp : b ≠ g) (cs : Array Value) : CpI (w.setRow g cs) B (some ⟨b, off, none⟩) n xs :=
  ⟨h.1, h.2.1, fun hn => by
    obtain ⟨b', off', e, hg, hc⟩ := h.2.2 hn
    simp only [Option.some.injEq, Addr.mk.injEq, and_true] at e
    obtain ⟨rfl, rfl⟩ := e
    refine ⟨b, off, rfl, hg, fun j x hx => ⟨?_, (hc j x hx).2⟩⟩
    obtain ⟨h0, h1, h2, h3⟩ := (hc j x hx).1
    exact ⟨(cell_setRow_other w g cs _ hp).trans h0, (cell_setRow_other w g cs _ hp).trans h1, (cell_setRow_other w g cs _ hp).trans h2, (cell_setRow_other w g cs _ hp).trans h3⟩⟩

section
variable {H : Type} {enc : TypeId × Value → H} {W : World} {base : Nat} {held : Bool}
theorem open_CpF {A : Option Addr} {n c fuel : Nat} {x : DataW H × List MemPlace} (hf : DataW.trod enc Try.prog W base (fun _ => true) held fuel 24 [.slice A n c] = some x) :
    ∃ xs, CpI W W.heap.size A n xs := by
  obtain ⟨hm, hc⟩ := open_structs Try.underlying24 Try.underlying53 (by kernel_rfl) (by kernel_rfl) (by decide) hf
  by_cases hn : 0 < n
  · obtain ⟨b, off, e, hb, hi⟩ := hc hn
    obtain ⟨xs, hl, hx⟩ := list_of (α := Cp) (P := fun j x => CpAt W b (off + j * 4) x ∧ x.name_.size ≤ maxLen ∧ x.text_.size ≤ maxLen) (n := n) fun i hin => by
      obtain ⟨v0, y0, m0, c0, t0⟩ := hi i hin 0 _ rfl
      obtain ⟨v1, y1, m1, c1, t1⟩ := hi i hin 1 _ rfl
      obtain ⟨v2, y2, m2, c2, t2⟩ := hi i hin 2 _ rfl
      obtain ⟨v3, y3, m3, c3, t3⟩ := hi i hin 3 _ rfl
      obtain ⟨z0, e0, _, hz0⟩ := DataW.trod_string Try.underlying9 t0
      obtain ⟨z1, e1, _, hz1⟩ := DataW.trod_string Try.underlying9 t1
      obtain ⟨z2, e2, _, hz2⟩ := DataW.trod_int Try.underlying2 t2
      obtain ⟨z3, e3, _, hz3⟩ := DataW.trod_int Try.underlying2 t3
      simp only [List.cons.injEq, and_true] at e0 e1 e2 e3
      subst e0 e1 e2 e3
      exact ⟨⟨z0, z1, z2, z3⟩, ⟨c0, c1, c2, c3⟩, hz0, hz1⟩
    exact ⟨xs, hl, hm, fun _ => ⟨b, off, e, hb, fun j x hj => hx j x hj⟩⟩
  · exact ⟨[], by simp; omega, hm, fun h => absurd h hn⟩
end
theorem open_Cp {H : Type} {enc : TypeId × Value → H} {W : World} {A : Option Addr} {n c : Nat} {d : DataW H} {p : List MemPlace} (h : DataW.Trod enc Try.prog W 0 (fun _ => true) true 24 (.slice A n c) d p) :
    ∃ xs, CpI W W.heap.size A n xs := by
  obtain ⟨fuel, hf⟩ := h
  exact open_CpF (by simpa [Value.cells] using hf)

/-- A Capture's texts' bytes. -/
def szCp1 (x : Cp) : Nat := x.name_.size + x.text_.size
/-- Those of the first k. -/
def sumCp (xs : List Cp) : Nat → Nat
  | 0 => 0
  | k + 1 => sumCp xs k + ((xs[k]?.map szCp1).getD 0)
theorem sumCp_next {xs : List Cp} {k : Nat} {x : Cp} (h : xs[k]? = some x) : sumCp xs (k + 1) = sumCp xs k + szCp1 x := by
  rw [sumCp, h]
  rfl
theorem sumCp_mono {xs : List Cp} {j : Nat} : ∀ {k : Nat}, j ≤ k → sumCp xs j ≤ sumCp xs k
  | 0, h => by obtain rfl : j = 0 := by omega
               exact Nat.le_refl _
  | k + 1, h => by
    by_cases e : j = k + 1
    · rw [e]; exact Nat.le_refl _
    · have := sumCp_mono (xs := xs) (show j ≤ k by omega)
      rw [sumCp]
      omega
/-- What szCaptureS takes of the bound. -/
def szCp (xs : List Cp) : Nat := xs.length + sumCp xs xs.length

set_option maxRecDepth 100000 in
theorem szCapture_any (x : Cp) (L : Int) (W : World) (h0 : 0 ≤ L) (hL : L ≤ 1048576) (hm0 : x.name_.size ≤ maxLen) (hm1 : x.text_.size ≤ maxLen) :
    Calls Try.prog 23 #[x.ag, .int .i64 L] W (SzL (szCp1 x) L W) := by
  obtain ⟨s, hs⟩ : ∃ s, szCp1 x = s := ⟨_, rfl⟩
  rw [hs]
  unfold szCp1 at hs
  obtain ⟨x0, x1, x2, x3⟩ := x
  dsimp only at hs hm0 hm1
  have HS := Lib.hid hs
  unfold maxLen at hm0 hm1
  clear hs
  show Calls Try.prog 23 #[.agg #[.string x0, .string x1, .int .i64 x2, .int .i64 x3], .int .i64 L] W _
  by_cases c0 : (x0.size : Int) ≤ L
  · have d0 : decide (L - (x0.size : Int) < 0) = false := by simp; omega
    by_cases c1 : (x0.size : Int) + (x1.size : Int) ≤ L
    · have d1 : decide (L - (x0.size : Int) - (x1.size : Int) < 0) = false := by simp; omega
      have HX : Hid ((s : Int) ≤ L) := by have := HS.out; show _ ≤ _; omega
      have HE : Hid (L - (x0.size : Int) - (x1.size : Int) = L - (s : Int)) := by have := HS.out; show _ = _; omega
      go_enter Try.func23, Try.ntmps23
      go_wp2_with fail
      go_ret
      exact ⟨.inl ⟨HX.out, by rw [HE.out]; rfl⟩, below_alloc _ _⟩
    · have d1 : decide (L - (x0.size : Int) - (x1.size : Int) < 0) = true := by simp; omega
      have HX : Hid (L < (s : Int)) := by have := HS.out; show _ < _; omega
      go_enter Try.func23, Try.ntmps23
      go_wp2_with fail
      go_ret
      exact ⟨.inr ⟨HX.out, rfl⟩, below_alloc _ _⟩
  · have d0 : decide (L - (x0.size : Int) < 0) = true := by simp; omega
    have HX : Hid (L < (s : Int)) := by have := HS.out; show _ < _; omega
    go_enter Try.func23, Try.ntmps23
    go_wp2_with fail
    go_ret
    exact ⟨.inr ⟨HX.out, rfl⟩, below_alloc _ _⟩

set_option maxHeartbeats 1000000 in
set_option maxRecDepth 100000 in
theorem szCaptureS_any (A : Option Addr) (n c : Nat) (xs : List Cp) (L : Int) (W : World) (hr : CpI W W.heap.size A n xs) (h0 : 0 ≤ L) (hL : L ≤ 1048576) :
    Calls Try.prog 11 #[.slice A n c, .int .i64 L] W (SzL (szCp xs) L W) := by
  have HR := Lib.hid hr
  have hn := hr.2.1
  have hxn := hr.1
  clear hr
  obtain ⟨s, hs⟩ : ∃ s, szCp xs = s := ⟨_, rfl⟩
  have HS : Hid (s = n + sumCp xs n) := by show _ = _; rw [← hs, szCp, hxn]
  rw [hs]
  clear hs hxn
  unfold maxLen at hn
  by_cases hbig : L < (n : Int)
  · have HB : Hid (L < (s : Int)) := by show _ < _; have := HS.out; omega
    have h2 : (n : Int) ≤ 9223372036854775807 := by omega
    have d0 : decide (L - n < 0) = true := by simp; omega
    go_enter Try.func11, Try.ntmps11
    go_wp2_with fail
    go_ret
    exact ⟨.inr ⟨HB.out, rfl⟩, Below.refl _ _⟩
  · have h1 : (n : Int) ≤ L := by omega
    have hn' : n ≤ 1048576 := by omega
    have d0 : decide (L - n < 0) = false := by simp; omega
    clear hbig
    go_enter Try.func11, Try.ntmps11
    go_wp2_with fail
    go_loopw [1, 5] (fun q i wr => ∃ k : Nat, ∃ z : Int, k ≤ n ∧ i = .int .i64 k ∧ q = .int .i64 z ∧ 0 ≤ z ∧ z ≤ 1048576 ∧ Hid (z = L - (n : Int) - (sumCp xs k : Int)) ∧ Hid (Below W.heap.size W wr)) (fun _ i _ => n - (intOf i).toNat)
    case atStart => exact ⟨0, _, Nat.zero_le _, rfl, rfl, by omega, by omega, by show _ = _; simp [sumCp], Below.refl _ _⟩
    case round =>
      obtain ⟨k, z, hk, rfl, rfl, hz0, hz1, HZ, HW⟩ := hrel
      by_cases hlt : k < n
      · obtain ⟨b, off, x, rfl, hg, hx, ⟨q0, q1, q2, q3⟩, hm0, hm1⟩ := (HR.out.below HW.out).at_ hlt
        have HX := Lib.hid hx
        have b0 : (0 : Int) ≤ (k : Int) := by omega
        have b1 : (k : Int) < (n : Int) := by omega
        have HZ0 : Hid (0 ≤ z) := hz0
        have HZ1 : Hid (z ≤ 1048576) := hz1
        have HC := Lib.hid (fun w => szCapture_any x z w hz0 hz1 hm0 hm1)
        clear hx hg hm0 hm1
        by_cases hf : (szCp1 x : Int) ≤ z
        · have HF := Lib.hid hf
          have HN : Hid (sumCp xs (k + 1) = sumCp xs k + szCp1 x) := sumCp_next HX.out
          clear hf
          go_wp2_with (go_at_call 23; refine (HC.out _).mono ?_; intro e w1 h; obtain ⟨z1, rfl, hz2, l1, u1, hb⟩ := h.fits HF.out HZ1.out; have Z1 := Lib.hid hz2; have dz : decide (z1 < 0) = false := (by simp; omega); have HW1 : Hid (Below W.heap.size W w1) := HW.out.trans (hb.mono HW.out.size); clear hb hz2)
          go_roundw
          case rel => exact ⟨k + 1, _, by omega, by go_num, rfl, by omega, by omega, by show _ = _; rw [HN.out, Z1.out, HZ.out]; omega, HW1⟩
          case measure => simp [intOf]; omega
        · have HF := Lib.hid hf
          have HBIG : Hid (L < (s : Int)) := by
            show _ < _
            have h1 := sumCp_mono (xs := xs) (j := k + 1) (k := n) (by omega)
            rw [sumCp_next HX.out] at h1
            have h2 := HZ.out
            have h3 := HS.out
            omega
          clear hf
          go_wp2_with (go_at_call 23; refine (HC.out _).mono ?_; intro e w1 h; obtain ⟨rfl, hb⟩ := h.long HF.out; have HW1 : Hid (Below W.heap.size W w1) := HW.out.trans (hb.mono HW.out.size); clear hb)
          go_ret
          exact ⟨.inr ⟨HBIG.out, rfl⟩, HW1.out⟩
      · have hkn : k = n := by omega
        have HE : Hid ((s : Int) ≤ L ∧ z = L - (s : Int)) := by
          have h := HZ.out
          have h3 := HS.out
          rw [hkn] at h
          exact ⟨by omega, by omega⟩
        go_wp2_with fail
        go_ret
        exact ⟨.inl ⟨HE.out.1, by rw [HE.out.2]; rfl⟩, HW.out⟩

theorem toCapture_any (x : Cp) (W : World) :
    Calls Try.prog 26 #[x.ag] W fun e w' => e = .returned x.ag ∧ Below W.heap.size W w' := by
  obtain ⟨x0, x1, x2, x3⟩ := x
  show Calls Try.prog 26 #[.agg #[.string x0, .string x1, .int .i64 x2, .int .i64 x3]] W _
  go_enter Try.func26, Try.ntmps26
  go_wp2
  exact bodyPost_ret (v := .agg #[.string x0, .string x1, .int .i64 x2, .int .i64 x3]) (by simp [results, Try.results26, go_sem]) rfl
    ⟨rfl, by repeat (first | exact Below.refl _ _ | refine Below.setCell ?_ (by first | (simp; done) | (simp; omega)) _ | refine Below.alloc ?_ (by first | (simp; done) | (simp; omega)) _)⟩

/-- The elements of block g ahead of j are filled. -/
def FilledCp (w : World) (g j n : Nat) (xs : List Cp) : Prop := ∃ cs, RW 51 w g cs ∧ n * 4 ≤ cs.size ∧ ∀ (i q : Nat) (x : Cp) (v : Value), i < j → xs[i]? = some x → x.vs[q]? = some v → cs[i * 4 + q]? = some v
theorem infoCp : (Try.prog.info? 51).map (fun i => (i.zero, i.size, i.bytes)) = some (some (Value.agg #[.string ⟨#[]⟩, .string ⟨#[]⟩, .int .i64 0, .int .i64 0]), 4, 48) := by kernel_rfl
theorem ownCp {w : World} {B g n : Nat} {xs : List Value} (h : w.ownsRow B 51 4 (.slice (some ⟨g, 0, none⟩) n n) n xs) : ∃ cs, RW 51 w g cs ∧ n * 4 ≤ cs.size := by
  rcases h.2 with ⟨h', _⟩ | ⟨g', cap', cur, h', _, hg, _, _, hsz, _⟩
  · simp at h'
  · simp only [Value.slice.injEq, Option.some.injEq, Addr.mk.injEq, and_true, true_and] at h'
    obtain ⟨rfl, rfl⟩ := h'
    exact ⟨cur, hg, by omega⟩
/-- What toCaptureS answers: a slice at the head of the first new block. -/
def ToCp (xs : List Cp) (n : Nat) (W : World) (e : Ending) (w' : World) : Prop :=
  e = .returned (.slice (some ⟨W.heap.size, 0, none⟩) n n) ∧ Hid (CpI w' w'.heap.size (some ⟨W.heap.size, 0, none⟩) n xs ∧ Below W.heap.size W w')

set_option maxHeartbeats 2000000 in
set_option maxRecDepth 100000 in
theorem toCaptureS_any (A : Option Addr) (n c : Nat) (xs : List Cp) (W : World) (hr : CpI W W.heap.size A n xs) (hn : n ≤ 1048576) :
    Calls Try.prog 15 #[.slice A n c] W (ToCp xs n W) := by
  obtain ⟨i0, hi, hz0, hz1, hz2⟩ := info_parts infoCp
  have HR := Lib.hid hr
  have h1 : (n : Int) ≤ 1048576 := by omega
  clear hr
  go_enter Try.func15, Try.ntmps15
  go_wp2_with (at_make; refine wpList_make_full _ rfl _ _ 31 rfl W.heap.size 51 i0 (.agg #[.string ⟨#[]⟩, .string ⟨#[]⟩, .int .i64 0, .int .i64 0]) 4 Try.underlying31 hi hz0 hz1 .i64 .i64 n n n rfl rfl rfl rfl (by rw [hz2]; omega) (by unfold maxLen; omega) (Nat.le_refl _) ?_)
  intro w1 hown hgrow
  have HB1 : Hid (Below W.heap.size W w1) := below_grown_none hgrow
  obtain ⟨cs, hcs, hcn⟩ := ownCp hown
  have HG : Hid (W.heap.size < w1.heap.size) := hcs.lt
  have HM : Hid (FilledCp w1 W.heap.size 0 n xs) := ⟨cs, hcs, hcn, fun i q x v hi => absurd hi (by omega)⟩
  clear hown hgrow hcs hcn hi hz0 hz1 hz2
  go_wp2_with fail
  go_loopw [4] (fun i wr => ∃ j : Nat, j ≤ n ∧ i = .int .i64 j ∧ Hid (Below W.heap.size W wr) ∧ Hid (W.heap.size < wr.heap.size) ∧ Hid (FilledCp wr W.heap.size j n xs)) (fun i _ => n - (intOf i).toNat)
  case atStart => exact ⟨0, Nat.zero_le _, rfl, HB1, HG, HM⟩
  case round =>
    obtain ⟨j, hj, rfl, HW, HZ, HJ⟩ := hrel
    by_cases hlt : j < n
    · obtain ⟨b, off, x, rfl, hg, hx, ⟨q0, q1, q2, q3⟩, hxs⟩ := (HR.out.below HW.out).at_ hlt
      obtain ⟨x0, x1, x2, x3⟩ := x
      dsimp only at q0 q1 q2 q3 hxs
      have HX := Lib.hid hx
      obtain ⟨cs, hs, hcs, hm⟩ := HJ.out
      have HSB := Lib.hid hs
      have HMM := Lib.hid hm
      have HL0 : Hid (j * 4 < cs.size) := by show _ < _; omega
      have HL1 : Hid (j * 4 + 1 < cs.size) := by show _ < _; omega
      have HL2 : Hid (j * 4 + 2 < cs.size) := by show _ < _; omega
      have HL3 : Hid (j * 4 + 3 < cs.size) := by show _ < _; omega
      have HCS := Lib.hid hcs
      clear hs hm hx hxs hg hcs
      have b0 : (0 : Int) ≤ (j : Int) := by omega
      have b1 : (j : Int) < (n : Int) := by omega
      go_wp2_with (go_at_call 26; refine (toCapture_any ⟨x0, x1, x2, x3⟩ _).mono ?_; rintro e w1 ⟨rfl, hb⟩; have HB1 := Lib.hid hb; have HS1 : Hid (RW 51 w1 W.heap.size cs) := HSB.out.below hb HZ.out; have p0 := (HS1.out.cell (j * 4)).trans (Array.getElem?_eq_getElem HL0.out); have p1 := (HS1.out.cell (j * 4 + 1)).trans (Array.getElem?_eq_getElem HL1.out); have p2 := (HS1.out.cell (j * 4 + 2)).trans (Array.getElem?_eq_getElem HL2.out); have p3 := (HS1.out.cell (j * 4 + 3)).trans (Array.getElem?_eq_getElem HL3.out); have z0 := HS1.out.frozen (j * 4); have z1 := HS1.out.frozen (j * 4 + 1); have z2 := HS1.out.frozen (j * 4 + 2); have z3 := HS1.out.frozen (j * 4 + 3); clear hb q0 q1 q2 q3)
      go_roundw
      case rel =>
        refine ⟨j + 1, by omega, by go_num, ?_, ?_, ?_⟩
        · exact ((((HW.out.trans (HB1.out.mono (Nat.le_of_lt HZ.out))).setCell (Nat.le_refl _) _).setCell (Nat.le_refl _) _).setCell (Nat.le_refl _) _).setCell (Nat.le_refl _) _
        · have h1 := HB1.out.size
          have h2 := HZ.out
          show _ < _
          simp [World.setCell]
          omega
        · refine ⟨_, ((((HS1.out).set_ _ _).set_ _ _).set_ _ _).set_ _ _, by simpa using HCS.out, fun i q x v hi hxi hv => ?_⟩
          by_cases e : i = j
          · subst e
            rw [HX.out, Option.some.injEq] at hxi
            subst hxi
            exact putL_new _ _ _ q v (by have := HL3.out; simp [Cp.vs]; omega) hv
          · have hq : q < 4 := (List.getElem?_eq_some_iff.1 hv).1
            refine (putL_old (Cp.vs ⟨x0, x1, x2, x3⟩) cs (j * 4) _ (by omega)).trans (HMM.out i q x v (by omega) hxi hv)
      case measure => simp [intOf]; omega
    · have HN : Hid (j = n) := by show _ = _; omega
      go_wp2_with fail
      go_ret
      refine ⟨rfl, Lib.hid ⟨⟨HR.out.1, HR.out.2.1, fun _ => ⟨W.heap.size, 0, rfl, HZ.out, fun i x hx => ?_⟩⟩, HW.out⟩⟩
      obtain ⟨cs, hs, hcs, hm⟩ := HJ.out
      have hil : i < xs.length := (List.getElem?_eq_some_iff.1 hx).1
      have hij : i < j := by have := HN.out; have := HR.out.1; omega
      obtain ⟨_, _, _, _, hc⟩ := HR.out.2.2 (by have := HR.out.1; omega)
      rw [Nat.zero_add]
      exact ⟨⟨(hs.cell _).trans (hm i 0 x _ hij hx rfl), (hs.cell _).trans (hm i 1 x _ hij hx rfl), (hs.cell _).trans (hm i 2 x _ hij hx rfl), (hs.cell _).trans (hm i 3 x _ hij hx rfl)⟩, (hc i x hx).2⟩
end Go.Proofs.Ytnneidpdfommjaa
