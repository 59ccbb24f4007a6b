/- RecordType: as plain data and in memory; szRecordType, szRecordTypeS of the laws. No condition. toRecordType, toRecordTypeS of the laws. No condition. laws.eqRecordType, laws.eqRecordTypeS where both are the same. No condition. Scope: as plain data and in memory; szScope, szScopeS of the laws. No condition. File: as plain data and in memory; szFile, szFileS of the laws. No condition. toFile, toFileS of the laws. No condition. laws.eqFile, laws.eqFileS where both are the same. No condition. Console: as plain data and in memory; szConsole, szConsoleS of the laws. No condition. -/
import Derived.Test.YtjhemdgeafglhaaSameMemoryM2
namespace Go.Proofs.Ytjhemdgeafglhaa
open Go Go.RowKit

structure Rt where
  name_ : ByteArray
  fields_ : List St
/-- Where its lists lie. -/
structure RtLay where
  A1 : Option Addr
  n1 : Nat
  c1 : Nat
  h1 : n1 ≤ c1
/-- As one value. -/
abbrev Rt.ag (x : Rt) (l : RtLay) : Value := .agg #[.string x.name_, .slice l.A1 l.n1 l.c1]
def Rt.vs (x : Rt) (l : RtLay) : List Value := [.string x.name_, .slice l.A1 l.n1 l.c1]
/-- Its lists lie below B. -/
def RtV (w : World) (B : Nat) (x : Rt) (l : RtLay) : Prop := StI w B l.A1 l.n1 x.fields_ ∧ x.name_.size ≤ maxLen
theorem RtV.below {w w' : World} {B : Nat} {x : Rt} {l : RtLay} (h : RtV w B x l) (hb : Below B w w') : RtV w' B x l := by
  obtain ⟨h0, h1⟩ := h
  exact ⟨h0.below hb, h1⟩
theorem RtV.more {w : World} {B B' : Nat} {x : Rt} {l : RtLay} (h : RtV w B x l) (hB : B ≤ B') : RtV w B' x l := by
  obtain ⟨h0, h1⟩ := h
  exact ⟨h0.more hB, h1⟩
theorem RtV.go {W w : World} {x : Rt} {l : RtLay} (h : RtV W W.heap.size x l) (hb : Below W.heap.size W w) : RtV w w.heap.size x l := (h.below hb).more hb.size
theorem RtV.alloc {W : World} {x : Rt} {l : RtLay} (h : RtV W W.heap.size x l) (o : Obj) : RtV (W.alloc o) (W.alloc o).heap.size x l := h.go (below_alloc W o)
/-- Its cells from p on of block b. -/
def RtAt (w : World) (b p : Nat) (x : Rt) (l : RtLay) : Prop := w.cell? ⟨b, p, none⟩ = some (.string x.name_) ∧ w.cell? ⟨b, p + 1, none⟩ = some (.slice l.A1 l.n1 l.c1)
theorem RtAt.below {w w' : World} {b p B : Nat} {x : Rt} {l : RtLay} (h : RtAt w b p x l) (hb : Below B w w') (hg : b < B) : RtAt w' b p x l := by
  obtain ⟨h0, h1⟩ := h
  exact ⟨(hb.cell (p := ⟨b, p, none⟩) hg).trans h0, (hb.cell (p := ⟨b, p + 1, none⟩) hg).trans h1⟩
theorem RtAt.range {w : World} {b p : Nat} {x : Rt} {l : RtLay} (h : RtAt w b p x l) : w.rangeAt b p (x.vs l) := by
  obtain ⟨h0, h1⟩ := h
  intro j v hj
  match j, hj with
  | 0, hj => cases hj; exact h0
  | 1, hj => cases hj; exact h1
  | j + 2, hj => simp [Rt.vs] at hj
/-- A slice of them that lies below B, with their lists. -/
def RtI (w : World) (B : Nat) (A : Option Addr) (n : Nat) (xs : List Rt) : Prop :=
  xs.length = n ∧ n ≤ maxLen ∧ (0 < n → ∃ b off, A = some ⟨b, off, none⟩ ∧ b < B ∧ ∀ (j : Nat) (x : Rt), xs[j]? = some x → ∃ l, RtAt w b (off + j * 2) x l ∧ RtV w B x l)
theorem RtI.below {w w' : World} {B n : Nat} {A : Option Addr} {xs : List Rt} (h : RtI w B A n xs) (hb : Below B w w') : RtI w' B A n xs :=
  ⟨h.1, h.2.1, fun hn => by
    obtain ⟨b, off, e, hg, hc⟩ := h.2.2 hn
    refine ⟨b, off, e, hg, fun j x hx => ?_⟩
    obtain ⟨l, h1, h2⟩ := hc j x hx
    exact ⟨l, h1.below hb hg, h2.below hb⟩⟩
theorem RtI.more {w : World} {B B' n : Nat} {A : Option Addr} {xs : List Rt} (h : RtI w B A n xs) (hB : B ≤ B') : RtI w B' A n xs :=
  ⟨h.1, h.2.1, fun hn => by
    obtain ⟨b, off, e, hg, hc⟩ := h.2.2 hn
    refine ⟨b, off, e, by omega, fun j x hx => ?_⟩
    obtain ⟨l, h1, h2⟩ := hc j x hx
    exact ⟨l, h1, h2.more hB⟩⟩
theorem RtI.at_ {w : World} {B n k : Nat} {A : Option Addr} {xs : List Rt} (h : RtI w B A n xs) (hk : k < n) : ∃ b off x l, A = some ⟨b, off, none⟩ ∧ b < B ∧ xs[k]? = some x ∧ RtAt w b (off + k * 2) x l ∧ RtV w B x l := by
  obtain ⟨b, off, e, hg, hc⟩ := h.2.2 (by omega)
  have hl : k < xs.length := by rw [h.1]; exact hk
  obtain ⟨l, h1, h2⟩ := hc k _ (List.getElem?_eq_getElem hl)
  exact ⟨b, off, xs[k], l, e, hg, List.getElem?_eq_getElem hl, h1, h2⟩
theorem RtI.go {W w : World} {A : Option Addr} {n : Nat} {xs : List Rt} (h : RtI W W.heap.size A n xs) (hb : Below W.heap.size W w) : RtI w w.heap.size A n xs := (h.below hb).more hb.size
theorem RtI.alloc {W : World} {A : Option Addr} {n : Nat} {xs : List Rt} (h : RtI W W.heap.size A n xs) (o : Obj) : RtI (W.alloc o) (W.alloc o).heap.size A n xs := h.go (below_alloc W o)

section
variable {H : Type} {enc : TypeId × Value → H} {W : World} {base : Nat} {held : Bool}
set_option maxRecDepth 100000 in
/-- Its cells, each with its own reading. -/
theorem open_RtN {fuel : Nat} {cs : List Value} {x : DataW H × List MemPlace} (h : DataW.trod enc Try.prog W base (fun _ => true) held fuel 118 cs = some x) :
    ∃ x l, cs = Rt.vs x l ∧ RtV W W.heap.size x l := by
  obtain ⟨ys, m, hm, _, hlen, _, hf⟩ := DataW.trod_struct Try.underlying118 h
  have hlen' : cs.length = 2 := hlen.trans (by kernel_rfl)
  match cs, hlen' with
  | [c0, c1], _ =>
    have hys : ∀ i, i < 2 → ∃ y, ys[i]? = some y := by
      intro i hi
      have : ys.length = 2 := by assumption
      exact ⟨_, List.getElem?_eq_getElem (by omega)⟩
    have f0 : DataW.trod enc Try.prog W base (fun _ => true) held m 9 [c0] = ys[0]? := field_at (i := 0) (o := 0) (k := 1) (T := 9) hf (by kernel_rfl) (by kernel_rfl)
    obtain ⟨y0, g0⟩ := hys 0 (by decide)
    rw [g0] at f0
    have f1 : DataW.trod enc Try.prog W base (fun _ => true) held m 22 [c1] = ys[1]? := field_at (i := 1) (o := 1) (k := 1) (T := 22) hf (by kernel_rfl) (by kernel_rfl)
    obtain ⟨y1, g1⟩ := hys 1 (by decide)
    rw [g1] at f1
    obtain ⟨z0, e0, _, hz0⟩ := DataW.trod_string Try.underlying9 f0
    obtain ⟨A1, n1, q1, hc1, e1⟩ := open_slice1 Try.underlying22 f1
    rw [e1] at f1
    obtain ⟨z1, hz1⟩ := open_StF f1
    simp only [List.cons.injEq, and_true] at e0 e1
    subst e0 e1
    exact ⟨⟨z0, z1⟩, ⟨A1, n1, q1, hc1⟩, rfl, hz1, hz0⟩
set_option maxRecDepth 100000 in
/-- An argument that is a slice. -/
theorem open_RtF {A : Option Addr} {n c fuel : Nat} {x : DataW H × List MemPlace} (hf : DataW.trod enc Try.prog W base (fun _ => true) held fuel 38 [.slice A n c] = some x) :
    ∃ xs, RtI W W.heap.size A n xs := by
  rcases Go.Deep.open_slice Try.underlying38 hf with ⟨h0, _⟩ | ⟨a, len, cap, m, k, D, Pl, hcs, hb, hl, hm, hmm, hx, hi⟩
  · simp at h0
    obtain ⟨rfl, rfl, rfl⟩ := h0
    exact ⟨[], rfl, Nat.zero_le _, fun h => absurd h (by omega)⟩
  · simp only [List.cons.injEq, Value.slice.injEq, and_true] at hcs
    obtain ⟨rfl, rfl, rfl⟩ := hcs
    simp only [if_true] at hmm
    have hC : Try.prog.cellsOf 118 = 2 := by kernel_rfl
    have key : ∀ i, i < n → ∃ o : Rt, ∃ l, (∀ j v, (Rt.vs o l)[j]? = some v → W.cell? (a.add (i * 2 + j)) = some v) ∧ RtV W W.heap.size o l := by
      intro i hin
      obtain ⟨cs', hc, ht'⟩ := hi i (by omega)
      rw [hC] at hc
      obtain ⟨o, l, e, ho⟩ := open_RtN ht'
      obtain ⟨_, hcl, hat⟩ := World.cells?_some hc
      refine ⟨o, l, fun j v hj => ?_, ho⟩
      rw [← e] at hj
      have hjl : j < 2 := by have := (List.getElem?_eq_some_iff.1 hj).1; omega
      rw [← Go.Deep.add_add, hat j hjl, hj]
    have hnm : n ≤ maxLen := Nat.le_trans hl hm
    by_cases hn : 0 < n
    · obtain ⟨ab, ao, spot⟩ := a
      obtain ⟨o0, l0, h0, _⟩ := key 0 hn
      have h00 := h0 0 _ rfl
      have hspot : spot = none := by simpa [Addr.add] using World.cell?_spot h00
      subst hspot
      rw [Addr.add_lit] at h00
      obtain ⟨os, hl', hx'⟩ := list_of (α := Rt) (P := fun j o => ∃ l, RtAt W ab (ao + j * 2) o l ∧ RtV W W.heap.size o l) (n := n) fun i hin => by
        obtain ⟨o, l, hc, ho⟩ := key i hin
        have hc' : ∀ j v, (Rt.vs o l)[j]? = some v → W.cell? ⟨ab, ao + i * 2 + j, none⟩ = some v := by
          intro j v hj
          have := hc j v hj
          rw [Addr.add_lit, ← Nat.add_assoc] at this
          exact this
        exact ⟨o, l, ⟨hc' 0 _ rfl, hc' 1 _ rfl⟩, ho⟩
      exact ⟨os, hl', hnm, fun _ => ⟨ab, ao, rfl, World.block_lt_of_cell? W ⟨ab, _, none⟩ h00, hx'⟩⟩
    · exact ⟨[], by simp; omega, hnm, fun h => absurd h hn⟩
end
set_option maxRecDepth 100000 in
/-- An argument. -/
theorem open_Rt {H : Type} {enc : TypeId × Value → H} {W : World} {v : Value} {d : DataW H} {p : List MemPlace} {r : Reach} {b0 : Nat} (hv : Value.okWide Try.prog W r b0 118 v) (h : DataW.Trod enc Try.prog W 0 (fun _ => true) true 118 v d p) :
    ∃ x l, v = Rt.ag x l ∧ RtV W W.heap.size x l := by
  obtain ⟨cs, rfl, hsz⟩ := Go.WideShapes.okWide_struct Try.underlying118 hv
  obtain ⟨fuel, hf⟩ := h
  obtain ⟨x, l, e, ho⟩ := open_RtN hf
  refine ⟨x, l, ?_, ho⟩
  have : cs.toList = Rt.vs x l := e
  rw [show cs = (Rt.vs x l).toArray from by rw [← this]]
  rfl
theorem open_RtS {H : Type} {enc : TypeId × Value → H} {W : World} {A : Option Addr} {n c : Nat} {d : DataW H} {p : List MemPlace} (h : DataW.Trod enc Try.prog W 0 (fun _ => true) true 38 (.slice A n c) d p) :
    ∃ xs, RtI W W.heap.size A n xs := by
  obtain ⟨fuel, hf⟩ := h
  exact open_RtF (by simpa [Value.cells] using hf)

/-- What szRecordType takes of the bound. -/
def szRt1 (x : Rt) : Nat := x.name_.size + szSt x.fields_

set_option maxHeartbeats 2000000 in
set_option maxRecDepth 100000 in
theorem szRecordType_any (x : Rt) (l : RtLay) (L : Int) (W : World) (ho : RtV W W.heap.size x l) (hLL : 0 ≤ L) (hL : L ≤ 1048576) :
    Calls Try.prog 64 #[x.ag l, .int .i64 L] W (SzL (szRt1 x) L W) := by
  obtain ⟨s, hs⟩ : ∃ s, szRt1 x = s := ⟨_, rfl⟩
  rw [hs]
  unfold szRt1 at hs
  obtain ⟨x0, x1⟩ := x
  obtain ⟨A1, n1, c1, h1⟩ := l
  obtain ⟨k1, k0⟩ := ho
  try unfold RtV at k1 k0
  dsimp only at hs k1 k0
  have HS := Lib.hid hs
  have HL0 := Lib.hid hLL
  have HL1 := Lib.hid hL
  have HK1 := Lib.hid k1
  unfold maxLen at k0
  have HC := Lib.hid (fun X (e : X = W.alloc (.cells #[.string x0, .slice A1 n1 c1] 118)) => (show RW 118 X W.heap.size #[.string x0, .slice A1 n1 c1] ∧ Below W.heap.size W X ∧ W.heap.size < X.heap.size from by rw [e]; exact ⟨RW.new _ _ _, below_alloc _ _, lt_alloc _ _⟩))
  clear hs k1
  show Calls Try.prog 64 #[.agg #[.string x0, .slice A1 n1 c1], .int .i64 L] W _
  by_cases cc0 : (x0.size : Int) ≤ L
  · have C0 := Lib.hid cc0
    clear cc0
    by_cases cc1 : (x0.size : Int) + (szSt x1 : Int) ≤ L
    · have C1 := Lib.hid cc1
      clear cc1
      have d0 : decide (L - (x0.size : Int) < 0) = false := (by have := C0.out; simp; omega)
      go_enter Try.func64, Try.ntmps64
      go_wp2_with (go_at_call 15; obtain ⟨g0, g1, g2⟩ := HC.out _ rfl; have HQ := szStringS_any A1 n1 c1 x1 (L - (x0.size : Int)) _ (HK1.out.go g1) (by have := C0.out; have := HL0.out; omega) (by have := C0.out; have := HL1.out; omega); refine Calls.mono HQ ?_; clear HQ; intro e w1 h; obtain ⟨z1, rfl, hz1, l1, u1, hb⟩ := h.fits (by have := C0.out; have := C1.out; omega) (by have := C0.out; have := HL1.out; omega); have Z1 := Lib.hid hz1; have d1 : decide (z1 < 0) = false := (by simp; omega); have HR1 := Lib.hid (g0.below hb g2); have HB1 := Lib.hid (g1.trans (hb.mono g1.size)); have HG1 := Lib.hid (Nat.lt_of_lt_of_le g2 hb.size); clear hb hz1 g0 g1 g2 HK1)
      go_ret
      refine ⟨.inl ⟨by have := C0.out; have := C1.out; have := Z1.out; have := HS.out; omega, ?_⟩, HB1.out⟩
      have hx : z1 = L - (s : Int) := by have := C0.out; have := C1.out; have := Z1.out; have := HS.out; omega
      rw [← hx]
      rfl
    · have C1 := Lib.hid cc1
      clear cc1
      have d0 : decide (L - (x0.size : Int) < 0) = false := (by have := C0.out; simp; omega)
      go_enter Try.func64, Try.ntmps64
      go_wp2_with (go_at_call 15; obtain ⟨g0, g1, g2⟩ := HC.out _ rfl; have HQ := szStringS_any A1 n1 c1 x1 (L - (x0.size : Int)) _ (HK1.out.go g1) (by have := C0.out; have := HL0.out; omega) (by have := C0.out; have := HL1.out; omega); refine Calls.mono HQ ?_; clear HQ; intro e w1 h; obtain ⟨rfl, hb⟩ := h.long (by have := C0.out; have := C1.out; omega); have HR1 := Lib.hid (g0.below hb g2); have HB1 := Lib.hid (g1.trans (hb.mono g1.size)); have HG1 := Lib.hid (Nat.lt_of_lt_of_le g2 hb.size); clear hb g0 g1 g2 HK1)
      go_ret
      exact ⟨.inr ⟨by have := C0.out; have := C1.out; have := HS.out; omega, rfl⟩, HB1.out⟩
  · have C0 := Lib.hid cc0
    clear cc0
    have d0 : decide (L - (x0.size : Int) < 0) = true := (by have := C0.out; simp; omega)
    go_enter Try.func64, Try.ntmps64
    go_wp2_with fail
    go_ret
    exact ⟨.inr ⟨by have := C0.out; have := HS.out; omega, rfl⟩, (below_alloc _ _)⟩

/-- Those of the first k. -/
def sumRt (xs : List Rt) : Nat → Nat
  | 0 => 0
  | k + 1 => sumRt xs k + ((xs[k]?.map szRt1).getD 0)
theorem sumRt_next {xs : List Rt} {k : Nat} {x : Rt} (h : xs[k]? = some x) : sumRt xs (k + 1) = sumRt xs k + szRt1 x := by
  rw [sumRt, h]
  rfl
theorem sumRt_mono {xs : List Rt} {j : Nat} : ∀ {k : Nat}, j ≤ k → sumRt xs j ≤ sumRt xs k
  | 0, h => by obtain rfl : j = 0 := by omega
               exact Nat.le_refl _
  | k + 1, h => by
    by_cases e : j = k + 1
    · rw [e]; exact Nat.le_refl _
    · have := sumRt_mono (xs := xs) (show j ≤ k by omega)
      rw [sumRt]
      omega
def szRt (xs : List Rt) : Nat := xs.length + sumRt xs xs.length

set_option maxHeartbeats 1000000 in
set_option maxRecDepth 100000 in
theorem szRecordTypeS_any (A : Option Addr) (n c : Nat) (xs : List Rt) (L : Int) (W : World) (hr : RtI W W.heap.size A n xs) (h0 : 0 ≤ L) (hL : L ≤ 1048576) :
    Calls Try.prog 42 #[.slice A n c, .int .i64 L] W (SzL (szRt xs) L W) := by
  have HR := Lib.hid hr
  have hn := hr.2.1
  have hxn := hr.1
  clear hr
  obtain ⟨s, hs⟩ : ∃ s, szRt xs = s := ⟨_, rfl⟩
  have HS : Hid (s = n + sumRt xs n) := by show _ = _; rw [← hs, szRt, hxn]
  rw [hs]
  clear hs hxn
  unfold maxLen at hn
  by_cases hbig : L < (n : Int)
  · have HB : Hid (L < (s : Int)) := by show _ < _; have := HS.out; omega
    have h2 : (n : Int) ≤ 9223372036854775807 := by omega
    have d0 : decide (L - n < 0) = true := by simp; omega
    go_enter Try.func42, Try.ntmps42
    go_wp2_with fail
    go_ret
    exact ⟨.inr ⟨HB.out, rfl⟩, Below.refl _ _⟩
  · have h1 : (n : Int) ≤ L := by omega
    have hn' : n ≤ 1048576 := by omega
    have d0 : decide (L - n < 0) = false := by simp; omega
    clear hbig
    go_enter Try.func42, Try.ntmps42
    go_wp2_with fail
    go_loopw [1, 5] (fun q i wr => ∃ k : Nat, ∃ z : Int, k ≤ n ∧ i = .int .i64 k ∧ q = .int .i64 z ∧ 0 ≤ z ∧ z ≤ 1048576 ∧ Hid (z = L - (n : Int) - (sumRt xs k : Int)) ∧ Hid (Below W.heap.size W wr)) (fun _ i _ => n - (intOf i).toNat)
    case atStart => exact ⟨0, _, Nat.zero_le _, rfl, rfl, by omega, by omega, by show _ = _; simp [sumRt], Below.refl _ _⟩
    case round =>
      obtain ⟨k, z, hk, rfl, rfl, hz0, hz1, HZ, HW⟩ := hrel
      by_cases hlt : k < n
      · obtain ⟨b, off, x, l, rfl, hg, hx, ⟨q0, q1⟩, hov⟩ := (HR.out.below HW.out).at_ hlt
        have HO := Lib.hid (hov.more HW.out.size)
        have HX := Lib.hid hx
        have b0 : (0 : Int) ≤ (k : Int) := by omega
        have b1 : (k : Int) < (n : Int) := by omega
        have HZ0 : Hid (0 ≤ z) := hz0
        have HZ1 : Hid (z ≤ 1048576) := hz1
        clear hx hov hg
        by_cases hf : (szRt1 x : Int) ≤ z
        · have HF := Lib.hid hf
          have HN : Hid (sumRt xs (k + 1) = sumRt xs k + szRt1 x) := sumRt_next HX.out
          clear hf
          go_wp2_with (go_at_call 64; refine (szRecordType_any x l _ _ HO.out HZ0.out HZ1.out).mono ?_; intro e w1 h; obtain ⟨z1, rfl, hz2, l1, u1, hb⟩ := h.fits HF.out HZ1.out; have Z1 := Lib.hid hz2; have dz : decide (z1 < 0) = false := (by simp; omega); have HW1 : Hid (Below W.heap.size W w1) := HW.out.trans (hb.mono HW.out.size); clear hb hz2)
          go_roundw
          case rel => exact ⟨k + 1, _, by omega, by go_num, rfl, by omega, by omega, by show _ = _; rw [HN.out, Z1.out, HZ.out]; omega, HW1⟩
          case measure => simp [intOf]; omega
        · have HF := Lib.hid hf
          have HBIG : Hid (L < (s : Int)) := by
            show _ < _
            have h1 := sumRt_mono (xs := xs) (j := k + 1) (k := n) (by omega)
            rw [sumRt_next HX.out] at h1
            have h2 := HZ.out
            have h3 := HS.out
            omega
          clear hf
          go_wp2_with (go_at_call 64; refine (szRecordType_any x l _ _ HO.out HZ0.out HZ1.out).mono ?_; intro e w1 h; obtain ⟨rfl, hb⟩ := h.long HF.out; have HW1 : Hid (Below W.heap.size W w1) := HW.out.trans (hb.mono HW.out.size); clear hb)
          go_ret
          exact ⟨.inr ⟨HBIG.out, rfl⟩, HW1.out⟩
      · have hkn : k = n := by omega
        have HE : Hid ((s : Int) ≤ L ∧ z = L - (s : Int)) := by
          have h := HZ.out
          have h3 := HS.out
          rw [hkn] at h
          exact ⟨by omega, by omega⟩
        go_wp2_with fail
        go_ret
        exact ⟨.inl ⟨HE.out.1, by rw [HE.out.2]; rfl⟩, HW.out⟩
/-- No list is too long. -/
def RtSmall (x : Rt) : Prop := x.fields_.length ≤ 1048576
theorem small_Rt1 {x : Rt} (h : (szRt1 x : Int) ≤ 1048576) : RtSmall x := by
  unfold szRt1 at h
  unfold RtSmall
  exact (by unfold szSt at h; omega)
theorem small_Rt {xs : List Rt} (h : (szRt xs : Int) ≤ 1048576) : (∀ (j : Nat) (x : Rt), xs[j]? = some x → RtSmall x) ∧ xs.length ≤ 1048576 := by
  unfold szRt at h
  refine ⟨fun j x hx => small_Rt1 ?_, by omega⟩
  have hl := (List.getElem?_eq_some_iff.1 hx).1
  have h1 := sumRt_mono (xs := xs) (j := j + 1) (k := xs.length) (by omega)
  rw [sumRt_next hx] at h1
  omega
end Go.Proofs.Ytjhemdgeafglhaa

namespace Go.Proofs.Ytjhemdgeafglhaa
open Go Go.RowKit

/-- What toRecordType answers. -/
def ToRt (x : Rt) (W : World) (e : Ending) (w' : World) : Prop := ∃ l, e = .returned (x.ag l) ∧ Hid (RtV w' w'.heap.size x l ∧ Below W.heap.size W w' ∧ l.n1 = x.fields_.length ∧ ∃ b1, l.A1 = some ⟨b1, 0, none⟩ ∧ W.heap.size ≤ b1)

set_option maxHeartbeats 2000000 in
set_option maxRecDepth 100000 in
theorem toRecordType_any (x : Rt) (l : RtLay) (W : World) (ho : RtV W W.heap.size x l) (hsm : RtSmall x) :
    Calls Try.prog 69 #[x.ag l] W (ToRt x W) := by
  obtain ⟨x0, x1⟩ := x
  obtain ⟨A1, n1, c1, h1⟩ := l
  obtain ⟨k1, k0⟩ := ho
  have s1 := hsm
  try unfold RtV at k1 k0
  try unfold RtSmall at s1
  dsimp only at k1 k0 s1
  rw [k1.1] at s1
  have HK1 := Lib.hid k1
  have HS1 := Lib.hid s1
  have HT0 := Lib.hid k0
  clear k1 k0 s1
  have HC := Lib.hid (fun (X Y : World) (T T' : TypeId) (c c' : Array Value) (eY : Y = W.alloc (.cells #[.string x0, .slice A1 n1 c1] T)) (eX : X = (Y.alloc (.cells c T')).alloc (.cells c' T')) =>
    (show RW T X W.heap.size #[.string x0, .slice A1 n1 c1] ∧ RW T' X (W.heap.size + 1 + 1) c' ∧ RW T' X (W.heap.size + 1) c ∧ Below W.heap.size W X ∧ X.heap.size = W.heap.size + 3 from by
      subst eX; subst eY
      refine ⟨((RW.new W _ T).alloc _).alloc _, ?_, ?_, ((below_alloc _ _).alloc (by simp) _).alloc (by simp; omega) _, by simp⟩
      · have := RW.new ((W.alloc (.cells #[.string x0, .slice A1 n1 c1] T)).alloc (.cells c T')) c' T'
        simpa using this
      · have := (RW.new (W.alloc (.cells #[.string x0, .slice A1 n1 c1] T)) c T').alloc (.cells c' T')
        simpa using this))
  show Calls Try.prog 69 #[.agg #[.string x0, .slice A1 n1 c1]] W _
  go_enter Try.func69, Try.ntmps69
  go_wp2_with (go_at_call 19; obtain ⟨g0, g1, g4, g2, g3⟩ := HC.out _ _ _ _ _ _ rfl rfl; have HQ := toStringS_any A1 n1 c1 x1 _ (HK1.out.go g2) HS1.out; refine Calls.mono HQ ?_; clear HQ; rintro e w1 ⟨rfl, h⟩; obtain ⟨hv, hb⟩ := h.out; have hd := hv.det; rw [g3] at hv hd; have HA1 := Lib.hid (g0.below hb (by omega)); have HR1 := Lib.hid (g1.below hb (by omega)); have HO1 := Lib.hid (g4.below hb (by omega)); have HB1 := Lib.hid (g2.trans (hb.mono g2.size)); have HV1_1 : Hid (Det (W.heap.size + 1 + 1 + 1) w1.heap.size w1 fun w => StI w w1.heap.size (some ⟨W.heap.size + 1 + 1 + 1, 0, none⟩) n1 x1) := hd; have HG1 : Hid (W.heap.size + 3 ≤ w1.heap.size) := (by have := hb.size; show _ ≤ _; omega); clear g0 g1 g2 g3 g4 h hv hd hb HK1; have p11 : w1.cell? ⟨W.heap.size + 1 + 1, 1, none⟩ = some (.slice none 0 0) := HR1.out.cell 1; have f11 := HR1.out.frozen 1; have p10 : w1.cell? ⟨W.heap.size + 1 + 1, 0, none⟩ = some (.string x0) := HR1.out.cell 0; have r0 : w1.cell? ⟨W.heap.size + 1, 0, none⟩ = some (.string ⟨#[]⟩) := HO1.out.cell 0; have z0 := HO1.out.frozen 0; have r1 : w1.cell? ⟨W.heap.size + 1, 1, none⟩ = some (.slice none 0 0) := HO1.out.cell 1; have z1 := HO1.out.frozen 1)
  have hs1 := HG1.out
  have hb1 : Below (W.heap.size + 1) w1 (((w1.setCell ⟨W.heap.size + 1 + 1, 1, none⟩ (.slice (some ⟨W.heap.size + 1 + 1 + 1, 0, none⟩) n1 n1)).setCell ⟨W.heap.size + 1, 0, none⟩ (.string x0)).setCell ⟨W.heap.size + 1, 1, none⟩ (.slice (some ⟨W.heap.size + 1 + 1 + 1, 0, none⟩) n1 n1)) := (((below_set w1 (p := ⟨W.heap.size + 1 + 1, 1, none⟩) (by simp) _).setCell (by simp) _).setCell (by simp) _)
  have hzz : (((w1.setCell ⟨W.heap.size + 1 + 1, 1, none⟩ (.slice (some ⟨W.heap.size + 1 + 1 + 1, 0, none⟩) n1 n1)).setCell ⟨W.heap.size + 1, 0, none⟩ (.string x0)).setCell ⟨W.heap.size + 1, 1, none⟩ (.slice (some ⟨W.heap.size + 1 + 1 + 1, 0, none⟩) n1 n1)).heap.size = w1.heap.size := by simp [World.setCell]
  refine bodyPost_ret (v := .agg #[.string x0, .slice (some ⟨W.heap.size + 1 + 1 + 1, 0, none⟩) n1 n1]) (results_cell_row Try.results69 _ _ (W.heap.size + 1) 86 _ (0, 0) _ rfl ((((((HO1.out).other (p := ⟨W.heap.size + 1 + 1, 1, none⟩) (by simp) (.slice (some ⟨W.heap.size + 1 + 1 + 1, 0, none⟩) n1 n1))).set_ 0 (.string x0))).set_ 1 (.slice (some ⟨W.heap.size + 1 + 1 + 1, 0, none⟩) n1 n1)) Try.underlying86 rfl (by kernel_rfl)) rfl ⟨⟨some ⟨W.heap.size + 1 + 1 + 1, 0, none⟩, n1, n1, Nat.le_refl _⟩, rfl, Lib.hid ⟨?_, HB1.out.trans (hb1.mono (by omega)), HV1_1.out.self.1.symm, _, rfl, by omega⟩⟩
  show RtV (((w1.setCell ⟨W.heap.size + 1 + 1, 1, none⟩ (.slice (some ⟨W.heap.size + 1 + 1 + 1, 0, none⟩) n1 n1)).setCell ⟨W.heap.size + 1, 0, none⟩ (.string x0)).setCell ⟨W.heap.size + 1, 1, none⟩ (.slice (some ⟨W.heap.size + 1 + 1 + 1, 0, none⟩) n1 n1)) (((w1.setCell ⟨W.heap.size + 1 + 1, 1, none⟩ (.slice (some ⟨W.heap.size + 1 + 1 + 1, 0, none⟩) n1 n1)).setCell ⟨W.heap.size + 1, 0, none⟩ (.string x0)).setCell ⟨W.heap.size + 1, 1, none⟩ (.slice (some ⟨W.heap.size + 1 + 1 + 1, 0, none⟩) n1 n1)).heap.size ⟨x0, x1⟩ ⟨some ⟨W.heap.size + 1 + 1 + 1, 0, none⟩, n1, n1, Nat.le_refl _⟩
  rw [hzz]
  exact ⟨((((((HV1_1.out).set (p := ⟨W.heap.size + 1 + 1, 1, none⟩) (by first | (dsimp only; omega) | omega) _)).set (p := ⟨W.heap.size + 1, 0, none⟩) (by first | (dsimp only; omega) | omega) _)).set (p := ⟨W.heap.size + 1, 1, none⟩) (by first | (dsimp only; omega) | omega) _).self, HT0.out⟩

/-- The elements of block g ahead of j are filled; their lists lie elsewhere. -/
def FilledRt (w : World) (g j n : Nat) (xs : List Rt) : Prop :=
  ∃ cs, RW 86 w g cs ∧ n * 2 ≤ cs.size ∧ ∀ (i : Nat) (x : Rt), i < j → xs[i]? = some x → ∃ l b1, l.A1 = some ⟨b1, 0, none⟩ ∧ g < b1 ∧ RtV w w.heap.size x l ∧ ∀ (q : Nat) (v : Value), (x.vs l)[q]? = some v → cs[i * 2 + q]? = some v
theorem FilledRt.below {w w' : World} {g j n : Nat} {xs : List Rt} (h : FilledRt w g j n xs) (hb : Below w.heap.size w w') : FilledRt w' g j n xs := by
  obtain ⟨cs, hr, hn, hm⟩ := h
  refine ⟨cs, hr.below hb hr.lt, hn, fun i x hi hx => ?_⟩
  obtain ⟨l, b1, h1, u1, h5, h6⟩ := hm i x hi hx
  exact ⟨l, b1, h1, u1, (h5.below hb).more hb.size, h6⟩
theorem RtV.others {w : World} {B g o : Nat} {x : Rt} {l : RtLay} {b1 : Nat} (h : RtV w B x l) (h1 : l.A1 = some ⟨b1, 0, none⟩) (u1 : b1 ≠ g) (vs : List Value) : RtV (w.setCells g o vs) B x l := by
  obtain ⟨a0, a1⟩ := h
  try unfold RtV at a0 a1 ⊢
  rw [h1] at a0
  refine ⟨?_, a1⟩
  · rw [h1]; exact a0.others u1
theorem size_setsRt (vs : List Value) (w : World) (g k : Nat) : (w.setCells g k vs).heap.size = w.heap.size := by
  induction vs generalizing w k with
  | nil => rfl
  | cons v r ih => exact (ih _ _).trans (size_set _ _ _)
theorem FilledRt.store {w : World} {g j n : Nat} {xs : List Rt} {x : Rt} {l : RtLay} {b1 : Nat} (h : FilledRt w g j n xs) (hx : xs[j]? = some x) (hj : j < n) (h1 : l.A1 = some ⟨b1, 0, none⟩) (u1 : g < b1) (h5 : RtV w w.heap.size x l) :
    FilledRt (w.setCells g (j * 2) (x.vs l)) g (j + 1) n xs := by
  obtain ⟨cs, hr, hn, hm⟩ := h
  have hs : (w.setCells g (j * 2) (x.vs l)).heap.size = w.heap.size := size_setsRt _ _ _ _
  have hlK : (x.vs l).length = 2 := rfl
  refine ⟨_, hr.cells, by rw [putL_size]; exact hn, fun i y hi hy => ?_⟩
  by_cases e : i = j
  · subst e
    rw [hx, Option.some.injEq] at hy
    subst hy
    refine ⟨l, b1, h1, u1, ?_, fun q v hq => putL_new _ _ _ _ _ (by rw [hlK]; omega) hq⟩
    rw [hs]
    exact h5.others h1 (by omega) _
  · obtain ⟨l', b1', j1, v1, k5, k6⟩ := hm i y (by omega) hy
    refine ⟨l', b1', j1, v1, ?_, fun q v hq => ?_⟩
    · rw [hs]
      exact k5.others j1 (by omega) _
    · have hqK : q < 2 := (List.getElem?_eq_some_iff.1 hq).1
      rw [putL_old _ _ _ _ (by omega)]
      exact k6 q v hq
theorem FilledRt.all {w : World} {g n : Nat} {xs : List Rt} (h : FilledRt w g n n xs) (hl : xs.length = n) (hn : n ≤ maxLen) : RtI w w.heap.size (some ⟨g, 0, none⟩) n xs := by
  obtain ⟨cs, hr, hc, hm⟩ := h
  refine ⟨hl, hn, fun _ => ⟨g, 0, rfl, hr.lt, fun j x hx => ?_⟩⟩
  obtain ⟨l, _, _, _, h5, h6⟩ := hm j x (by rw [← hl]; exact (List.getElem?_eq_some_iff.1 hx).1) hx
  rw [Nat.zero_add]
  have k : ∀ q v, (x.vs l)[q]? = some v → w.cell? ⟨g, j * 2 + q, none⟩ = some v := fun q v hq => (hr.cell _).trans (h6 q v hq)
  exact ⟨l, ⟨k 0 _ rfl, k 1 _ rfl⟩, h5⟩
theorem FilledRt.det {w : World} {g n : Nat} {xs : List Rt} (h : FilledRt w g n n xs) (hl : xs.length = n) (hn : n ≤ maxLen) : Det g w.heap.size w fun w' => RtI w' w.heap.size (some ⟨g, 0, none⟩) n xs := by
  intro w' hk
  obtain ⟨cs, hr, hc, hm⟩ := h
  have hr' : RW 86 w' g cs := (hk g (Nat.le_refl _) hr.lt).trans hr
  refine ⟨hl, hn, fun _ => ⟨g, 0, rfl, hr.lt, fun j x hx => ?_⟩⟩
  obtain ⟨l, b1, h1, u1, h5, h6⟩ := hm j x (by rw [← hl]; exact (List.getElem?_eq_some_iff.1 hx).1) hx
  rw [Nat.zero_add]
  have k : ∀ q v, (x.vs l)[q]? = some v → w'.cell? ⟨g, j * 2 + q, none⟩ = some v := fun q v hq => (hr'.cell _).trans (h6 q v hq)
  refine ⟨l, ⟨k 0 _ rfl, k 1 _ rfl⟩, ?_⟩
  obtain ⟨a0, a1⟩ := h5
  try unfold RtV at a0 a1 ⊢
  refine ⟨?_, a1⟩
  · rw [h1] at a0 ⊢; exact a0.det w' fun g' h1 h2 => hk g' (by omega) h2
theorem infoRt : (Try.prog.info? 86).map (fun i => (i.zero, i.size, i.bytes)) = some (some (Value.agg #[.string ⟨#[]⟩, .slice none 0 0]), 2, 40) := by kernel_rfl
theorem ownRt {w : World} {B g n : Nat} {xs : List Value} (h : w.ownsRow B 86 2 (.slice (some ⟨g, 0, none⟩) n n) n xs) : ∃ cs, RW 86 w g cs ∧ n * 2 ≤ cs.size := by
  rcases h.2 with ⟨h', _⟩ | ⟨g', cap', cur, h', _, hg, _, _, hsz, _⟩
  · simp at h'
  · simp only [Value.slice.injEq, Option.some.injEq, Addr.mk.injEq, and_true, true_and] at h'
    obtain ⟨rfl, rfl⟩ := h'
    exact ⟨cur, hg, by omega⟩
/-- What toRecordTypeS answers. -/
def ToRtS (xs : List Rt) (n : Nat) (W : World) (e : Ending) (w' : World) : Prop :=
  e = .returned (.slice (some ⟨W.heap.size, 0, none⟩) n n) ∧ Hid (RtI w' w'.heap.size (some ⟨W.heap.size, 0, none⟩) n xs ∧ Below W.heap.size W w' ∧ Det W.heap.size w'.heap.size w' fun w => RtI w w'.heap.size (some ⟨W.heap.size, 0, none⟩) n xs)

set_option maxHeartbeats 2000000 in
set_option maxRecDepth 100000 in
theorem toRecordTypeS_any (A : Option Addr) (n c : Nat) (xs : List Rt) (W : World) (hr : RtI W W.heap.size A n xs) (hs : ∀ (j : Nat) (x : Rt), xs[j]? = some x → RtSmall x) (hn : n ≤ 1048576) :
    Calls Try.prog 49 #[.slice A n c] W (ToRtS xs n W) := by
  obtain ⟨i0, hi, hz0, hz1, hz2⟩ := info_parts infoRt
  have HR := Lib.hid hr
  have HS := Lib.hid hs
  have h1 : (n : Int) ≤ 1048576 := by omega
  clear hr hs
  go_enter Try.func49, Try.ntmps49
  go_wp2_with (at_make; refine wpList_make_full _ rfl _ _ 50 rfl W.heap.size 86 i0 (.agg #[.string ⟨#[]⟩, .slice none 0 0]) 2 Try.underlying50 hi hz0 hz1 .i64 .i64 n n n rfl rfl rfl rfl (by rw [hz2]; omega) (by unfold maxLen; omega) (Nat.le_refl _) ?_)
  intro w1 hown hgrow
  have HB1 : Hid (Below W.heap.size W w1) := below_grown_none hgrow
  obtain ⟨cs, hcs, hcn⟩ := ownRt hown
  have HG : Hid (W.heap.size < w1.heap.size) := hcs.lt
  have HM : Hid (FilledRt w1 W.heap.size 0 n xs) := ⟨cs, hcs, hcn, fun i x hi => absurd hi (by omega)⟩
  clear hown hgrow hcs hcn hi hz0 hz1 hz2
  go_wp2_with fail
  go_loopw [4] (fun i wr => ∃ j : Nat, j ≤ n ∧ i = .int .i64 j ∧ Hid (Below W.heap.size W wr) ∧ Hid (W.heap.size < wr.heap.size) ∧ Hid (FilledRt wr W.heap.size j n xs)) (fun i _ => n - (intOf i).toNat)
  case atStart => exact ⟨0, Nat.zero_le _, rfl, HB1, HG, HM⟩
  case round =>
    obtain ⟨j, hj, rfl, HW, HZ, HJ⟩ := hrel
    by_cases hlt : j < n
    · obtain ⟨b, off, x, l, rfl, hg, hx, ⟨q0, q1⟩, hov⟩ := (HR.out.below HW.out).at_ hlt
      have HX := Lib.hid hx
      have HO := Lib.hid (hov.more HW.out.size)
      have HLT := Lib.hid hlt
      have HS1 := Lib.hid (HS.out j x hx)
      clear hx hov hg
      have b0 : (0 : Int) ≤ (j : Int) := by omega
      have b1 : (j : Int) < (n : Int) := by omega
      go_wp2_with (first | (go_at_call 69; have HQ := toRecordType_any x l _ HO.out HS1.out; refine Calls.mono HQ ?_; clear HQ; rintro e w2 ⟨⟨A1, n1, c1, h1⟩, rfl, h⟩; obtain ⟨g1, hb, en1, b1, e1, g1g⟩ := h.out; clear en1; have HF := Lib.hid (HJ.out.below hb); have hlt2 := HLT.out; have hzz := HZ.out; have HF2 : Hid (FilledRt (w2.setCells W.heap.size (j * 2) [.string x.name_, .slice A1 n1 c1]) W.heap.size (j + 1) n xs) := (by have k := HF.out.store HX.out hlt2 e1 (Nat.lt_of_lt_of_le hzz g1g) g1; unfold Rt.vs at k; exact k); have HT : Hid (w2.there W.heap.size (j * 2) 2) := (by obtain ⟨cs, hr, hc, _⟩ := HF.out; exact hr.there (by omega)); have HW2 : Hid (Below W.heap.size W (w2.setCells W.heap.size (j * 2) [.string x.name_, .slice A1 n1 c1])) := ((HW.out.trans (hb.mono HW.out.size)).trans (below_cells (Nat.le_refl _) _ _ _)); have HZ2 : Hid (W.heap.size < (w2.setCells W.heap.size (j * 2) [.string x.name_, .slice A1 n1 c1]).heap.size) := (by obtain ⟨_, hr, _⟩ := HF2.out; exact hr.lt); have tk1 : True := trivial; clear h g1 hb e1 g1g hlt2 hzz q0 q1) | (clear tk1; refine wpList_store_mid rfl 86 (.tmp 21) (.tmp 20) rfl W.heap.size (j * 2) _ rfl rfl HT.out (by kernel_rfl) (by kernel_rfl) ?_; go_frame; clear HT; generalize w2.setCells W.heap.size (j * 2) [.string x.name_, .slice A1 n1 c1] = w3 at HF2 HW2 HZ2 ⊢))
      go_roundw
      case rel => exact ⟨j + 1, by omega, by go_num, HW2, HZ2, HF2⟩
      case measure => simp [intOf]; omega
    · have HN : Hid (j = n) := by show _ = _; omega
      go_wp2_with fail
      go_ret
      have h := HJ.out
      rw [HN.out] at h
      exact ⟨rfl, Lib.hid ⟨h.all HR.out.1 HR.out.2.1, HW.out, h.det HR.out.1 HR.out.2.1⟩⟩
end Go.Proofs.Ytjhemdgeafglhaa

namespace Go.Proofs.Ytjhemdgeafglhaa
open Go Go.RowKit

set_option maxHeartbeats 1000000 in
set_option maxRecDepth 100000 in
theorem eqRecordType_same (x : Rt) (l l' : RtLay) (W : World) (ho : RtV W W.heap.size x l) (ho' : RtV W W.heap.size x l') :
    Calls Try.prog 74 #[x.ag l, x.ag l'] W fun e w' => e = .returned (.bool true) ∧ Below W.heap.size W w' := by
  obtain ⟨x0, x1⟩ := x
  obtain ⟨A1, n1, c1, h1⟩ := l
  obtain ⟨A1', n1', c1', h1'⟩ := l'
  obtain ⟨k1, k0⟩ := ho
  obtain ⟨j1, j0⟩ := ho'
  try unfold RtV at k1 j1 k0 j0
  dsimp only at k1 j1 k0 j0
  obtain rfl : n1 = n1' := k1.1.symm.trans j1.1
  have HK1 := Lib.hid k1
  have HJ1 := Lib.hid j1
  clear k1 j1 k0 j0
  have HC := Lib.hid (two_new W 86 #[.string x0, .slice A1 n1 c1] #[.string x0, .slice A1' n1 c1'])
  show Calls Try.prog 74 #[.agg #[.string x0, .slice A1 n1 c1], .agg #[.string x0, .slice A1' n1 c1']] W _
  go_enter Try.func74, Try.ntmps74
  go_wp2_with (go_at_call 24; obtain ⟨g0, g1, g2, g3⟩ := HC.out _ rfl; have HQ := eqStringS_same A1 A1' n1 c1 c1' x1 _ (HK1.out.go g2) (HJ1.out.go g2); refine Calls.mono HQ ?_; clear HQ; rintro e w1 ⟨rfl, hb⟩; have HA1 := Lib.hid (g0.below hb (by omega)); have HD1 := Lib.hid (g1.below hb (by omega)); have HB1 := Lib.hid (g2.trans (hb.mono g2.size)); have HG1 : Hid (W.heap.size + 2 ≤ w1.heap.size) := (by have := hb.size; show _ ≤ _; omega); clear g0 g1 g2 g3 hb HK1)
  all_goals go_ret
  all_goals exact ⟨rfl, HB1.out⟩

/-- Two in two blocks, and their lists. -/
def TwoRt (wr : World) (b b' p p' : Nat) (x y : Rt) (l l' : RtLay) (w : World) : Prop := RtAt w b p x l ∧ RtAt w b' p' y l' ∧ RtV w w.heap.size x l ∧ RtV w w.heap.size y l' ∧ Below wr.heap.size wr w ∧ b < w.heap.size ∧ b' < w.heap.size
theorem TwoRt.grow {wr w w' : World} {b b' p p' : Nat} {x y : Rt} {l l' : RtLay} (h : TwoRt wr b b' p p' x y l l' w) (hb : Below w.heap.size w w') : TwoRt wr b b' p p' x y l l' w' :=
  ⟨h.1.below hb h.2.2.2.2.2.1, h.2.1.below hb h.2.2.2.2.2.2, (h.2.2.1.below hb).more hb.size, (h.2.2.2.1.below hb).more hb.size, h.2.2.2.2.1.trans (hb.mono h.2.2.2.2.1.size), Nat.lt_of_lt_of_le h.2.2.2.2.2.1 hb.size, Nat.lt_of_lt_of_le h.2.2.2.2.2.2 hb.size⟩
/-- .. cell by cell, as the walk of a region asks it. -/
abbrev FlatRt (wr : World) (b b' p p' : Nat) (x y : Rt) (l l' : RtLay) (w : World) : Prop := (w.cell? ⟨b, p, none⟩ = some (.string x.name_) ∧ w.cell? ⟨b, p + 1, none⟩ = some (.slice l.A1 l.n1 l.c1)) ∧ (w.cell? ⟨b', p', none⟩ = some (.string y.name_) ∧ w.cell? ⟨b', p' + 1, none⟩ = some (.slice l'.A1 l'.n1 l'.c1)) ∧ TwoRt wr b b' p p' x y l l' w
theorem TwoRt.flat {wr w : World} {b b' p p' : Nat} {x y : Rt} {l l' : RtLay} (h : TwoRt wr b b' p p' x y l l' w) : FlatRt wr b b' p p' x y l l' w := ⟨h.1, h.2.1, h⟩
theorem TwoRt.drew {wr : World} {b b' p p' : Nat} {x y : Rt} {l l' : RtLay} (h : TwoRt wr b b' p p' x y l l' wr) : TwoRt wr b b' p p' x y l l' wr.drew := h.grow (Below.refl _ _).drew

set_option maxHeartbeats 1000000 in
set_option maxRecDepth 100000 in
theorem eqRecordTypeS_same (A A' : Option Addr) (n c c' : Nat) (xs : List Rt) (W : World) (ha : RtI W W.heap.size A n xs) (hb : RtI W W.heap.size A' n xs) :
    Calls Try.prog 60 #[.slice A n c, .slice A' n c'] W fun e w' => e = .returned (.bool true) ∧ Below W.heap.size W w' := by
  have HA := Lib.hid ha
  have HB := Lib.hid hb
  have hn := ha.2.1
  unfold maxLen at hn
  clear ha hb
  go_enter Try.func60, Try.ntmps60
  go_wp2
  go_loopw [5] (fun i wr => ∃ k : Nat, k ≤ n ∧ i = .int .i64 k ∧ Hid (Below W.heap.size W wr)) (fun i _ => n - (intOf i).toNat)
  case atStart => exact ⟨0, Nat.zero_le _, rfl, Below.refl _ _⟩
  case round =>
    obtain ⟨k, hk, rfl, HW⟩ := hrel
    by_cases hlt : k < n
    · obtain ⟨b, off, x, l, rfl, hg, hx, h1, hv1⟩ := (HA.out.go HW.out).at_ hlt
      obtain ⟨b', off', x', l', rfl, hg', hx', h2, hv2⟩ := (HB.out.go HW.out).at_ hlt
      obtain rfl : x = x' := Option.some.inj (hx.symm.trans hx')
      have H0 := Lib.hid (show TwoRt wr b b' (off + k * 2) (off' + k * 2) x x l l' wr from ⟨h1, h2, hv1, hv2, Below.refl _ _, hg, hg'⟩)
      have b0 : (0 : Int) ≤ (k : Int) := by omega
      have b1 : (k : Int) < (n : Int) := by omega
      clear h1 h2 hv1 hv2 hx hx' hg hg'
      go_wp2_with fail
      go_region_held3 (fun w' => FlatRt wr b b' (off + k * 2) (off' + k * 2) x x l l' w')
        (first | exact H0.out.drew.flat | exact (TwoRt.grow H0.out.drew hb).flat | go_keep)
        ((go_at_call 74; have HS := H0.out.drew; have HQ := eqRecordType_same x l l' _ HS.2.2.1 HS.2.2.2.1; refine Calls.mono HQ ?_; clear HQ; rintro e w1 ⟨rfl, hb⟩))
      go_wp2_with fail
      go_split_ands
      have h2 : TwoRt wr b b' (off + k * 2) (off' + k * 2) x x l l' _ := ‹_›
      go_roundw
      case rel => exact ⟨k + 1, by omega, by go_num, HW.out.trans (h2.2.2.2.2.1.mono HW.out.size)⟩
      case measure => simp [intOf]; omega
    · go_wp2_with fail
      go_ret
      exact ⟨rfl, HW.out⟩
end Go.Proofs.Ytjhemdgeafglhaa

namespace Go.Proofs.Ytjhemdgeafglhaa
open Go Go.RowKit

structure Sc where
  vars_ : List Bd
  functions_ : List Fn
  types_ : List Rt
/-- Where its lists lie. -/
structure ScLay where
  A0 : Option Addr
  n0 : Nat
  c0 : Nat
  h0 : n0 ≤ c0
  A1 : Option Addr
  n1 : Nat
  c1 : Nat
  h1 : n1 ≤ c1
  A2 : Option Addr
  n2 : Nat
  c2 : Nat
  h2 : n2 ≤ c2
/-- As one value. -/
abbrev Sc.ag (x : Sc) (l : ScLay) : Value := .agg #[.slice l.A0 l.n0 l.c0, .slice l.A1 l.n1 l.c1, .slice l.A2 l.n2 l.c2]
def Sc.vs (x : Sc) (l : ScLay) : List Value := [.slice l.A0 l.n0 l.c0, .slice l.A1 l.n1 l.c1, .slice l.A2 l.n2 l.c2]
/-- Its lists lie below B. -/
def ScV (w : World) (B : Nat) (x : Sc) (l : ScLay) : Prop := BdI w B l.A0 l.n0 x.vars_ ∧ FnI w B l.A1 l.n1 x.functions_ ∧ RtI w B l.A2 l.n2 x.types_
theorem ScV.below {w w' : World} {B : Nat} {x : Sc} {l : ScLay} (h : ScV w B x l) (hb : Below B w w') : ScV w' B x l := by
  obtain ⟨h0, h1, h2⟩ := h
  exact ⟨h0.below hb, h1.below hb, h2.below hb⟩
theorem ScV.more {w : World} {B B' : Nat} {x : Sc} {l : ScLay} (h : ScV w B x l) (hB : B ≤ B') : ScV w B' x l := by
  obtain ⟨h0, h1, h2⟩ := h
  exact ⟨h0.more hB, h1.more hB, h2.more hB⟩
theorem ScV.go {W w : World} {x : Sc} {l : ScLay} (h : ScV W W.heap.size x l) (hb : Below W.heap.size W w) : ScV w w.heap.size x l := (h.below hb).more hb.size
theorem ScV.alloc {W : World} {x : Sc} {l : ScLay} (h : ScV W W.heap.size x l) (o : Obj) : ScV (W.alloc o) (W.alloc o).heap.size x l := h.go (below_alloc W o)
/-- Its cells from p on of block b. -/
def ScAt (w : World) (b p : Nat) (x : Sc) (l : ScLay) : Prop := w.cell? ⟨b, p, none⟩ = some (.slice l.A0 l.n0 l.c0) ∧ w.cell? ⟨b, p + 1, none⟩ = some (.slice l.A1 l.n1 l.c1) ∧ w.cell? ⟨b, p + 2, none⟩ = some (.slice l.A2 l.n2 l.c2)
theorem ScAt.below {w w' : World} {b p B : Nat} {x : Sc} {l : ScLay} (h : ScAt w b p x l) (hb : Below B w w') (hg : b < B) : ScAt w' b p x l := by
  obtain ⟨h0, h1, h2⟩ := h
  exact ⟨(hb.cell (p := ⟨b, p, none⟩) hg).trans h0, (hb.cell (p := ⟨b, p + 1, none⟩) hg).trans h1, (hb.cell (p := ⟨b, p + 2, none⟩) hg).trans h2⟩
theorem ScAt.range {w : World} {b p : Nat} {x : Sc} {l : ScLay} (h : ScAt w b p x l) : w.rangeAt b p (x.vs l) := by
  obtain ⟨h0, h1, h2⟩ := h
  intro j v hj
  match j, hj with
  | 0, hj => cases hj; exact h0
  | 1, hj => cases hj; exact h1
  | 2, hj => cases hj; exact h2
  | j + 3, hj => simp [Sc.vs] at hj
/-- A slice of them that lies below B, with their lists. -/
def ScI (w : World) (B : Nat) (A : Option Addr) (n : Nat) (xs : List Sc) : Prop :=
  xs.length = n ∧ n ≤ maxLen ∧ (0 < n → ∃ b off, A = some ⟨b, off, none⟩ ∧ b < B ∧ ∀ (j : Nat) (x : Sc), xs[j]? = some x → ∃ l, ScAt w b (off + j * 3) x l ∧ ScV w B x l)
theorem ScI.below {w w' : World} {B n : Nat} {A : Option Addr} {xs : List Sc} (h : ScI w B A n xs) (hb : Below B w w') : ScI w' B A n xs :=
  ⟨h.1, h.2.1, fun hn => by
    obtain ⟨b, off, e, hg, hc⟩ := h.2.2 hn
    refine ⟨b, off, e, hg, fun j x hx => ?_⟩
    obtain ⟨l, h1, h2⟩ := hc j x hx
    exact ⟨l, h1.below hb hg, h2.below hb⟩⟩
theorem ScI.more {w : World} {B B' n : Nat} {A : Option Addr} {xs : List Sc} (h : ScI w B A n xs) (hB : B ≤ B') : ScI w B' A n xs :=
  ⟨h.1, h.2.1, fun hn => by
    obtain ⟨b, off, e, hg, hc⟩ := h.2.2 hn
    refine ⟨b, off, e, by omega, fun j x hx => ?_⟩
    obtain ⟨l, h1, h2⟩ := hc j x hx
    exact ⟨l, h1, h2.more hB⟩⟩
theorem ScI.at_ {w : World} {B n k : Nat} {A : Option Addr} {xs : List Sc} (h : ScI w B A n xs) (hk : k < n) : ∃ b off x l, A = some ⟨b, off, none⟩ ∧ b < B ∧ xs[k]? = some x ∧ ScAt w b (off + k * 3) x l ∧ ScV w B x l := by
  obtain ⟨b, off, e, hg, hc⟩ := h.2.2 (by omega)
  have hl : k < xs.length := by rw [h.1]; exact hk
  obtain ⟨l, h1, h2⟩ := hc k _ (List.getElem?_eq_getElem hl)
  exact ⟨b, off, xs[k], l, e, hg, List.getElem?_eq_getElem hl, h1, h2⟩
theorem ScI.go {W w : World} {A : Option Addr} {n : Nat} {xs : List Sc} (h : ScI W W.heap.size A n xs) (hb : Below W.heap.size W w) : ScI w w.heap.size A n xs := (h.below hb).more hb.size
theorem ScI.alloc {W : World} {A : Option Addr} {n : Nat} {xs : List Sc} (h : ScI W W.heap.size A n xs) (o : Obj) : ScI (W.alloc o) (W.alloc o).heap.size A n xs := h.go (below_alloc W o)

section
variable {H : Type} {enc : TypeId × Value → H} {W : World} {base : Nat} {held : Bool}
set_option maxRecDepth 100000 in
/-- Its cells, each with its own reading. -/
theorem open_ScN {fuel : Nat} {cs : List Value} {x : DataW H × List MemPlace} (h : DataW.trod enc Try.prog W base (fun _ => true) held fuel 40 cs = some x) :
    ∃ x l, cs = Sc.vs x l ∧ ScV W W.heap.size x l := by
  obtain ⟨ys, m, hm, _, hlen, _, hf⟩ := DataW.trod_struct Try.underlying40 h
  have hlen' : cs.length = 3 := hlen.trans (by kernel_rfl)
  match cs, hlen' with
  | [c0, c1, c2], _ =>
    have hys : ∀ i, i < 3 → ∃ y, ys[i]? = some y := by
      intro i hi
      have : ys.length = 3 := by assumption
      exact ⟨_, List.getElem?_eq_getElem (by omega)⟩
    have f0 : DataW.trod enc Try.prog W base (fun _ => true) held m 36 [c0] = ys[0]? := field_at (i := 0) (o := 0) (k := 1) (T := 36) hf (by kernel_rfl) (by kernel_rfl)
    obtain ⟨y0, g0⟩ := hys 0 (by decide)
    rw [g0] at f0
    have f1 : DataW.trod enc Try.prog W base (fun _ => true) held m 37 [c1] = ys[1]? := field_at (i := 1) (o := 1) (k := 1) (T := 37) hf (by kernel_rfl) (by kernel_rfl)
    obtain ⟨y1, g1⟩ := hys 1 (by decide)
    rw [g1] at f1
    have f2 : DataW.trod enc Try.prog W base (fun _ => true) held m 38 [c2] = ys[2]? := field_at (i := 2) (o := 2) (k := 1) (T := 38) hf (by kernel_rfl) (by kernel_rfl)
    obtain ⟨y2, g2⟩ := hys 2 (by decide)
    rw [g2] at f2
    obtain ⟨A0, n0, q0, hc0, e0⟩ := open_slice1 Try.underlying36 f0
    rw [e0] at f0
    obtain ⟨z0, hz0⟩ := open_BdF f0
    obtain ⟨A1, n1, q1, hc1, e1⟩ := open_slice1 Try.underlying37 f1
    rw [e1] at f1
    obtain ⟨z1, hz1⟩ := open_FnF f1
    obtain ⟨A2, n2, q2, hc2, e2⟩ := open_slice1 Try.underlying38 f2
    rw [e2] at f2
    obtain ⟨z2, hz2⟩ := open_RtF f2
    simp only [List.cons.injEq, and_true] at e0 e1 e2
    subst e0 e1 e2
    exact ⟨⟨z0, z1, z2⟩, ⟨A0, n0, q0, hc0, A1, n1, q1, hc1, A2, n2, q2, hc2⟩, rfl, hz0, hz1, hz2⟩
end
set_option maxRecDepth 100000 in
/-- An argument. -/
theorem open_Sc {H : Type} {enc : TypeId × Value → H} {W : World} {v : Value} {d : DataW H} {p : List MemPlace} {r : Reach} {b0 : Nat} (hv : Value.okWide Try.prog W r b0 40 v) (h : DataW.Trod enc Try.prog W 0 (fun _ => true) true 40 v d p) :
    ∃ x l, v = Sc.ag x l ∧ ScV W W.heap.size x l := by
  obtain ⟨cs, rfl, hsz⟩ := Go.WideShapes.okWide_struct Try.underlying40 hv
  obtain ⟨fuel, hf⟩ := h
  obtain ⟨x, l, e, ho⟩ := open_ScN hf
  refine ⟨x, l, ?_, ho⟩
  have : cs.toList = Sc.vs x l := e
  rw [show cs = (Sc.vs x l).toArray from by rw [← this]]
  rfl
/-- What szScope takes of the bound. -/
def szSc1 (x : Sc) : Nat := szBd x.vars_ + szFn x.functions_ + szRt x.types_

set_option maxHeartbeats 2000000 in
set_option maxRecDepth 100000 in
theorem szScope_any (x : Sc) (l : ScLay) (L : Int) (W : World) (ho : ScV W W.heap.size x l) (hLL : 0 ≤ L) (hL : L ≤ 1048576) :
    Calls Try.prog 27 #[x.ag l, .int .i64 L] W (SzL (szSc1 x) L W) := by
  obtain ⟨s, hs⟩ : ∃ s, szSc1 x = s := ⟨_, rfl⟩
  rw [hs]
  unfold szSc1 at hs
  obtain ⟨x0, x1, x2⟩ := x
  obtain ⟨A0, n0, c0, h0, A1, n1, c1, h1, A2, n2, c2, h2⟩ := l
  obtain ⟨k0, k1, k2⟩ := ho
  try unfold ScV at k0 k1 k2
  dsimp only at hs k0 k1 k2
  have HS := Lib.hid hs
  have HL0 := Lib.hid hLL
  have HL1 := Lib.hid hL
  have HK0 := Lib.hid k0
  have HK1 := Lib.hid k1
  have HK2 := Lib.hid k2
  have HC := Lib.hid (fun X (e : X = W.alloc (.cells #[.slice A0 n0 c0, .slice A1 n1 c1, .slice A2 n2 c2] 40)) => (show RW 40 X W.heap.size #[.slice A0 n0 c0, .slice A1 n1 c1, .slice A2 n2 c2] ∧ Below W.heap.size W X ∧ W.heap.size < X.heap.size from by rw [e]; exact ⟨RW.new _ _ _, below_alloc _ _, lt_alloc _ _⟩))
  clear hs k0 k1 k2
  show Calls Try.prog 27 #[.agg #[.slice A0 n0 c0, .slice A1 n1 c1, .slice A2 n2 c2], .int .i64 L] W _
  by_cases cc0 : (szBd x0 : Int) ≤ L
  · have C0 := Lib.hid cc0
    clear cc0
    by_cases cc1 : (szBd x0 : Int) + (szFn x1 : Int) ≤ L
    · have C1 := Lib.hid cc1
      clear cc1
      by_cases cc2 : (szBd x0 : Int) + (szFn x1 : Int) + (szRt x2 : Int) ≤ L
      · have C2 := Lib.hid cc2
        clear cc2
        go_enter Try.func27, Try.ntmps27
        go_wp2_with (go_at_call 40; obtain ⟨g0, g1, g2⟩ := HC.out _ rfl; have HQ := szBindingS_any A0 n0 c0 x0 (L) _ (HK0.out.go g1) HL0.out HL1.out; refine Calls.mono HQ ?_; clear HQ; intro e w1 h; obtain ⟨z0, rfl, hz0, l0, u0, hb⟩ := h.fits (by have := C0.out; omega) HL1.out; have Z0 := Lib.hid hz0; have d0 : decide (z0 < 0) = false := (by simp; omega); have HR1 := Lib.hid (g0.below hb g2); have HB1 := Lib.hid (g1.trans (hb.mono g1.size)); have HG1 := Lib.hid (Nat.lt_of_lt_of_le g2 hb.size); have q01 : w1.cell? ⟨W.heap.size, 1, none⟩ = some (.slice A1 n1 c1) := HR1.out.cell 1; clear hb hz0 g0 g1 g2 HK0)
        go_wp2_with (go_at_call 41; have HQ := szFunctionS_any A1 n1 c1 x1 (z0) _ (HK1.out.go HB1.out) (by have := C0.out; have := Z0.out; have := HL0.out; omega) (by have := C0.out; have := Z0.out; have := HL1.out; omega); refine Calls.mono HQ ?_; clear HQ; intro e w2 h; obtain ⟨z1, rfl, hz1, l1, u1, hb⟩ := h.fits (by have := C0.out; have := C1.out; have := Z0.out; omega) (by have := C0.out; have := Z0.out; have := HL1.out; omega); have Z1 := Lib.hid hz1; have d1 : decide (z1 < 0) = false := (by simp; omega); have HR2 := Lib.hid (HR1.out.below hb HG1.out); have HB2 := Lib.hid (HB1.out.trans (hb.mono HB1.out.size)); have HG2 := Lib.hid (Nat.lt_of_lt_of_le HG1.out hb.size); have q12 : w2.cell? ⟨W.heap.size, 2, none⟩ = some (.slice A2 n2 c2) := HR2.out.cell 2; clear hb hz1  HK1)
        go_wp2_with (go_at_call 42; have HQ := szRecordTypeS_any A2 n2 c2 x2 (z1) _ (HK2.out.go HB2.out) (by have := C0.out; have := C1.out; have := Z0.out; have := Z1.out; have := HL0.out; omega) (by have := C0.out; have := C1.out; have := Z0.out; have := Z1.out; have := HL1.out; omega); refine Calls.mono HQ ?_; clear HQ; intro e w3 h; obtain ⟨z2, rfl, hz2, l2, u2, hb⟩ := h.fits (by have := C0.out; have := C1.out; have := C2.out; have := Z0.out; have := Z1.out; omega) (by have := C0.out; have := C1.out; have := Z0.out; have := Z1.out; have := HL1.out; omega); have Z2 := Lib.hid hz2; have d2 : decide (z2 < 0) = false := (by simp; omega); have HR3 := Lib.hid (HR2.out.below hb HG2.out); have HB3 := Lib.hid (HB2.out.trans (hb.mono HB2.out.size)); have HG3 := Lib.hid (Nat.lt_of_lt_of_le HG2.out hb.size); clear hb hz2  HK2)
        go_ret
        refine ⟨.inl ⟨by have := C0.out; have := C1.out; have := C2.out; have := Z0.out; have := Z1.out; have := Z2.out; have := HS.out; omega, ?_⟩, HB3.out⟩
        have hx : z2 = L - (s : Int) := by have := C0.out; have := C1.out; have := C2.out; have := Z0.out; have := Z1.out; have := Z2.out; have := HS.out; omega
        rw [← hx]
        rfl
      · have C2 := Lib.hid cc2
        clear cc2
        go_enter Try.func27, Try.ntmps27
        go_wp2_with (go_at_call 40; obtain ⟨g0, g1, g2⟩ := HC.out _ rfl; have HQ := szBindingS_any A0 n0 c0 x0 (L) _ (HK0.out.go g1) HL0.out HL1.out; refine Calls.mono HQ ?_; clear HQ; intro e w1 h; obtain ⟨z0, rfl, hz0, l0, u0, hb⟩ := h.fits (by have := C0.out; omega) HL1.out; have Z0 := Lib.hid hz0; have d0 : decide (z0 < 0) = false := (by simp; omega); have HR1 := Lib.hid (g0.below hb g2); have HB1 := Lib.hid (g1.trans (hb.mono g1.size)); have HG1 := Lib.hid (Nat.lt_of_lt_of_le g2 hb.size); have q01 : w1.cell? ⟨W.heap.size, 1, none⟩ = some (.slice A1 n1 c1) := HR1.out.cell 1; clear hb hz0 g0 g1 g2 HK0)
        go_wp2_with (go_at_call 41; have HQ := szFunctionS_any A1 n1 c1 x1 (z0) _ (HK1.out.go HB1.out) (by have := C0.out; have := Z0.out; have := HL0.out; omega) (by have := C0.out; have := Z0.out; have := HL1.out; omega); refine Calls.mono HQ ?_; clear HQ; intro e w2 h; obtain ⟨z1, rfl, hz1, l1, u1, hb⟩ := h.fits (by have := C0.out; have := C1.out; have := Z0.out; omega) (by have := C0.out; have := Z0.out; have := HL1.out; omega); have Z1 := Lib.hid hz1; have d1 : decide (z1 < 0) = false := (by simp; omega); have HR2 := Lib.hid (HR1.out.below hb HG1.out); have HB2 := Lib.hid (HB1.out.trans (hb.mono HB1.out.size)); have HG2 := Lib.hid (Nat.lt_of_lt_of_le HG1.out hb.size); have q12 : w2.cell? ⟨W.heap.size, 2, none⟩ = some (.slice A2 n2 c2) := HR2.out.cell 2; clear hb hz1  HK1)
        go_wp2_with (go_at_call 42; have HQ := szRecordTypeS_any A2 n2 c2 x2 (z1) _ (HK2.out.go HB2.out) (by have := C0.out; have := C1.out; have := Z0.out; have := Z1.out; have := HL0.out; omega) (by have := C0.out; have := C1.out; have := Z0.out; have := Z1.out; have := HL1.out; omega); refine Calls.mono HQ ?_; clear HQ; intro e w3 h; obtain ⟨rfl, hb⟩ := h.long (by have := C0.out; have := C1.out; have := C2.out; have := Z0.out; have := Z1.out; omega); have HR3 := Lib.hid (HR2.out.below hb HG2.out); have HB3 := Lib.hid (HB2.out.trans (hb.mono HB2.out.size)); have HG3 := Lib.hid (Nat.lt_of_lt_of_le HG2.out hb.size); clear hb  HK2)
        go_ret
        exact ⟨.inr ⟨by have := C0.out; have := C1.out; have := C2.out; have := Z0.out; have := Z1.out; have := HS.out; omega, rfl⟩, HB3.out⟩
    · have C1 := Lib.hid cc1
      clear cc1
      go_enter Try.func27, Try.ntmps27
      go_wp2_with (go_at_call 40; obtain ⟨g0, g1, g2⟩ := HC.out _ rfl; have HQ := szBindingS_any A0 n0 c0 x0 (L) _ (HK0.out.go g1) HL0.out HL1.out; refine Calls.mono HQ ?_; clear HQ; intro e w1 h; obtain ⟨z0, rfl, hz0, l0, u0, hb⟩ := h.fits (by have := C0.out; omega) HL1.out; have Z0 := Lib.hid hz0; have d0 : decide (z0 < 0) = false := (by simp; omega); have HR1 := Lib.hid (g0.below hb g2); have HB1 := Lib.hid (g1.trans (hb.mono g1.size)); have HG1 := Lib.hid (Nat.lt_of_lt_of_le g2 hb.size); have q01 : w1.cell? ⟨W.heap.size, 1, none⟩ = some (.slice A1 n1 c1) := HR1.out.cell 1; clear hb hz0 g0 g1 g2 HK0)
      go_wp2_with (go_at_call 41; have HQ := szFunctionS_any A1 n1 c1 x1 (z0) _ (HK1.out.go HB1.out) (by have := C0.out; have := Z0.out; have := HL0.out; omega) (by have := C0.out; have := Z0.out; have := HL1.out; omega); refine Calls.mono HQ ?_; clear HQ; intro e w2 h; obtain ⟨rfl, hb⟩ := h.long (by have := C0.out; have := C1.out; have := Z0.out; omega); have HR2 := Lib.hid (HR1.out.below hb HG1.out); have HB2 := Lib.hid (HB1.out.trans (hb.mono HB1.out.size)); have HG2 := Lib.hid (Nat.lt_of_lt_of_le HG1.out hb.size); clear hb  HK1)
      go_ret
      exact ⟨.inr ⟨by have := C0.out; have := C1.out; have := Z0.out; have := HS.out; omega, rfl⟩, HB2.out⟩
  · have C0 := Lib.hid cc0
    clear cc0
    go_enter Try.func27, Try.ntmps27
    go_wp2_with (go_at_call 40; obtain ⟨g0, g1, g2⟩ := HC.out _ rfl; have HQ := szBindingS_any A0 n0 c0 x0 (L) _ (HK0.out.go g1) HL0.out HL1.out; refine Calls.mono HQ ?_; clear HQ; intro e w1 h; obtain ⟨rfl, hb⟩ := h.long (by have := C0.out; omega); have HR1 := Lib.hid (g0.below hb g2); have HB1 := Lib.hid (g1.trans (hb.mono g1.size)); have HG1 := Lib.hid (Nat.lt_of_lt_of_le g2 hb.size); clear hb g0 g1 g2 HK0)
    go_ret
    exact ⟨.inr ⟨by have := C0.out; have := HS.out; omega, rfl⟩, HB1.out⟩

/-- Those of the first k. -/
def sumSc (xs : List Sc) : Nat → Nat
  | 0 => 0
  | k + 1 => sumSc xs k + ((xs[k]?.map szSc1).getD 0)
theorem sumSc_next {xs : List Sc} {k : Nat} {x : Sc} (h : xs[k]? = some x) : sumSc xs (k + 1) = sumSc xs k + szSc1 x := by
  rw [sumSc, h]
  rfl
theorem sumSc_mono {xs : List Sc} {j : Nat} : ∀ {k : Nat}, j ≤ k → sumSc xs j ≤ sumSc xs k
  | 0, h => by obtain rfl : j = 0 := by omega
               exact Nat.le_refl _
  | k + 1, h => by
    by_cases e : j = k + 1
    · rw [e]; exact Nat.le_refl _
    · have := sumSc_mono (xs := xs) (show j ≤ k by omega)
      rw [sumSc]
      omega
def szSc (xs : List Sc) : Nat := xs.length + sumSc xs xs.length

/-- No list is too long. -/
def ScSmall (x : Sc) : Prop := x.vars_.length ≤ 1048576 ∧ ((∀ (j : Nat) (y : Fn), x.functions_[j]? = some y → FnSmall y) ∧ x.functions_.length ≤ 1048576) ∧ ((∀ (j : Nat) (y : Rt), x.types_[j]? = some y → RtSmall y) ∧ x.types_.length ≤ 1048576)
theorem small_Sc1 {x : Sc} (h : (szSc1 x : Int) ≤ 1048576) : ScSmall x := by
  unfold szSc1 at h
  unfold ScSmall
  exact ⟨(by unfold szBd at h; omega), (small_Fn (by omega)), (small_Rt (by omega))⟩
theorem small_Sc {xs : List Sc} (h : (szSc xs : Int) ≤ 1048576) : (∀ (j : Nat) (x : Sc), xs[j]? = some x → ScSmall x) ∧ xs.length ≤ 1048576 := by
  unfold szSc at h
  refine ⟨fun j x hx => small_Sc1 ?_, by omega⟩
  have hl := (List.getElem?_eq_some_iff.1 hx).1
  have h1 := sumSc_mono (xs := xs) (j := j + 1) (k := xs.length) (by omega)
  rw [sumSc_next hx] at h1
  omega
end Go.Proofs.Ytjhemdgeafglhaa

namespace Go.Proofs.Ytjhemdgeafglhaa
open Go Go.RowKit

structure Fl where
  name_ : ByteArray
  lines_ : List St
  mode_ : Int
  at_ : Int
/-- Where its lists lie. -/
structure FlLay where
  A1 : Option Addr
  n1 : Nat
  c1 : Nat
  h1 : n1 ≤ c1
/-- As one value. -/
abbrev Fl.ag (x : Fl) (l : FlLay) : Value := .agg #[.string x.name_, .slice l.A1 l.n1 l.c1, .int .i64 x.mode_, .int .i64 x.at_]
def Fl.vs (x : Fl) (l : FlLay) : List Value := [.string x.name_, .slice l.A1 l.n1 l.c1, .int .i64 x.mode_, .int .i64 x.at_]
/-- Its lists lie below B. -/
def FlV (w : World) (B : Nat) (x : Fl) (l : FlLay) : Prop := StI w B l.A1 l.n1 x.lines_ ∧ x.name_.size ≤ maxLen
theorem FlV.below {w w' : World} {B : Nat} {x : Fl} {l : FlLay} (h : FlV w B x l) (hb : Below B w w') : FlV w' B x l := by
  obtain ⟨h0, h1⟩ := h
  exact ⟨h0.below hb, h1⟩
theorem FlV.more {w : World} {B B' : Nat} {x : Fl} {l : FlLay} (h : FlV w B x l) (hB : B ≤ B') : FlV w B' x l := by
  obtain ⟨h0, h1⟩ := h
  exact ⟨h0.more hB, h1⟩
theorem FlV.go {W w : World} {x : Fl} {l : FlLay} (h : FlV W W.heap.size x l) (hb : Below W.heap.size W w) : FlV w w.heap.size x l := (h.below hb).more hb.size
theorem FlV.alloc {W : World} {x : Fl} {l : FlLay} (h : FlV W W.heap.size x l) (o : Obj) : FlV (W.alloc o) (W.alloc o).heap.size x l := h.go (below_alloc W o)
/-- Its cells from p on of block b. -/
def FlAt (w : World) (b p : Nat) (x : Fl) (l : FlLay) : Prop := w.cell? ⟨b, p, none⟩ = some (.string x.name_) ∧ w.cell? ⟨b, p + 1, none⟩ = some (.slice l.A1 l.n1 l.c1) ∧ w.cell? ⟨b, p + 2, none⟩ = some (.int .i64 x.mode_) ∧ w.cell? ⟨b, p + 3, none⟩ = some (.int .i64 x.at_)
theorem FlAt.below {w w' : World} {b p B : Nat} {x : Fl} {l : FlLay} (h : FlAt w b p x l) (hb : Below B w w') (hg : b < B) : FlAt w' b p x l := by
  obtain ⟨h0, h1, h2, h3⟩ := h
  exact ⟨(hb.cell (p := ⟨b, p, none⟩) hg).trans h0, (hb.cell (p := ⟨b, p + 1, none⟩) hg).trans h1, (hb.cell (p := ⟨b, p + 2, none⟩) hg).trans h2, (hb.cell (p := ⟨b, p + 3, none⟩) hg).trans h3⟩
theorem FlAt.range {w : World} {b p : Nat} {x : Fl} {l : FlLay} (h : FlAt w b p x l) : w.rangeAt b p (x.vs l) := by
  obtain ⟨h0, h1, h2, h3⟩ := h
  intro j v hj
  match j, hj with
  | 0, hj => cases hj; exact h0
  | 1, hj => cases hj; exact h1
  | 2, hj => cases hj; exact h2
  | 3, hj => cases hj; exact h3
  | j + 4, hj => simp [Fl.vs] at hj
/-- A slice of them that lies below B, with their lists. -/
def FlI (w : World) (B : Nat) (A : Option Addr) (n : Nat) (xs : List Fl) : Prop :=
  xs.length = n ∧ n ≤ maxLen ∧ (0 < n → ∃ b off, A = some ⟨b, off, none⟩ ∧ b < B ∧ ∀ (j : Nat) (x : Fl), xs[j]? = some x → ∃ l, FlAt w b (off + j * 4) x l ∧ FlV w B x l)
theorem FlI.below {w w' : World} {B n : Nat} {A : Option Addr} {xs : List Fl} (h : FlI w B A n xs) (hb : Below B w w') : FlI w' B A n xs :=
  ⟨h.1, h.2.1, fun hn => by
    obtain ⟨b, off, e, hg, hc⟩ := h.2.2 hn
    refine ⟨b, off, e, hg, fun j x hx => ?_⟩
    obtain ⟨l, h1, h2⟩ := hc j x hx
    exact ⟨l, h1.below hb hg, h2.below hb⟩⟩
theorem FlI.more {w : World} {B B' n : Nat} {A : Option Addr} {xs : List Fl} (h : FlI w B A n xs) (hB : B ≤ B') : FlI w B' A n xs :=
  ⟨h.1, h.2.1, fun hn => by
    obtain ⟨b, off, e, hg, hc⟩ := h.2.2 hn
    refine ⟨b, off, e, by omega, fun j x hx => ?_⟩
    obtain ⟨l, h1, h2⟩ := hc j x hx
    exact ⟨l, h1, h2.more hB⟩⟩
theorem FlI.at_ {w : World} {B n k : Nat} {A : Option Addr} {xs : List Fl} (h : FlI w B A n xs) (hk : k < n) : ∃ b off x l, A = some ⟨b, off, none⟩ ∧ b < B ∧ xs[k]? = some x ∧ FlAt w b (off + k * 4) x l ∧ FlV w B x l := by
  obtain ⟨b, off, e, hg, hc⟩ := h.2.2 (by omega)
  have hl : k < xs.length := by rw [h.1]; exact hk
  obtain ⟨l, h1, h2⟩ := hc k _ (List.getElem?_eq_getElem hl)
  exact ⟨b, off, xs[k], l, e, hg, List.getElem?_eq_getElem hl, h1, h2⟩
theorem FlI.go {W w : World} {A : Option Addr} {n : Nat} {xs : List Fl} (h : FlI W W.heap.size A n xs) (hb : Below W.heap.size W w) : FlI w w.heap.size A n xs := (h.below hb).more hb.size
theorem FlI.alloc {W : World} {A : Option Addr} {n : Nat} {xs : List Fl} (h : FlI W W.heap.size A n xs) (o : Obj) : FlI (W.alloc o) (W.alloc o).heap.size A n xs := h.go (below_alloc W o)

section
variable {H : Type} {enc : TypeId × Value → H} {W : World} {base : Nat} {held : Bool}
set_option maxRecDepth 100000 in
/-- Its cells, each with its own reading. -/
theorem open_FlN {fuel : Nat} {cs : List Value} {x : DataW H × List MemPlace} (h : DataW.trod enc Try.prog W base (fun _ => true) held fuel 74 cs = some x) :
    ∃ x l, cs = Fl.vs x l ∧ FlV W W.heap.size x l := by
  obtain ⟨ys, m, hm, _, hlen, _, hf⟩ := DataW.trod_struct Try.underlying74 h
  have hlen' : cs.length = 4 := hlen.trans (by kernel_rfl)
  match cs, hlen' with
  | [c0, c1, c2, c3], _ =>
    have hys : ∀ i, i < 4 → ∃ y, ys[i]? = some y := by
      intro i hi
      have : ys.length = 4 := by assumption
      exact ⟨_, List.getElem?_eq_getElem (by omega)⟩
    have f0 : DataW.trod enc Try.prog W base (fun _ => true) held m 9 [c0] = ys[0]? := field_at (i := 0) (o := 0) (k := 1) (T := 9) hf (by kernel_rfl) (by kernel_rfl)
    obtain ⟨y0, g0⟩ := hys 0 (by decide)
    rw [g0] at f0
    have f1 : DataW.trod enc Try.prog W base (fun _ => true) held m 22 [c1] = ys[1]? := field_at (i := 1) (o := 1) (k := 1) (T := 22) hf (by kernel_rfl) (by kernel_rfl)
    obtain ⟨y1, g1⟩ := hys 1 (by decide)
    rw [g1] at f1
    have f2 : DataW.trod enc Try.prog W base (fun _ => true) held m 2 [c2] = ys[2]? := field_at (i := 2) (o := 2) (k := 1) (T := 2) hf (by kernel_rfl) (by kernel_rfl)
    obtain ⟨y2, g2⟩ := hys 2 (by decide)
    rw [g2] at f2
    have f3 : DataW.trod enc Try.prog W base (fun _ => true) held m 2 [c3] = ys[3]? := field_at (i := 3) (o := 3) (k := 1) (T := 2) hf (by kernel_rfl) (by kernel_rfl)
    obtain ⟨y3, g3⟩ := hys 3 (by decide)
    rw [g3] at f3
    obtain ⟨z0, e0, _, hz0⟩ := DataW.trod_string Try.underlying9 f0
    obtain ⟨A1, n1, q1, hc1, e1⟩ := open_slice1 Try.underlying22 f1
    rw [e1] at f1
    obtain ⟨z1, hz1⟩ := open_StF f1
    obtain ⟨z2, e2, _, _⟩ := DataW.trod_int Try.underlying2 f2
    obtain ⟨z3, e3, _, _⟩ := DataW.trod_int Try.underlying2 f3
    simp only [List.cons.injEq, and_true] at e0 e1 e2 e3
    subst e0 e1 e2 e3
    exact ⟨⟨z0, z1, z2, z3⟩, ⟨A1, n1, q1, hc1⟩, rfl, hz1, hz0⟩
set_option maxRecDepth 100000 in
/-- An argument that is a slice. -/
theorem open_FlF {A : Option Addr} {n c fuel : Nat} {x : DataW H × List MemPlace} (hf : DataW.trod enc Try.prog W base (fun _ => true) held fuel 23 [.slice A n c] = some x) :
    ∃ xs, FlI W W.heap.size A n xs := by
  rcases Go.Deep.open_slice Try.underlying23 hf with ⟨h0, _⟩ | ⟨a, len, cap, m, k, D, Pl, hcs, hb, hl, hm, hmm, hx, hi⟩
  · simp at h0
    obtain ⟨rfl, rfl, rfl⟩ := h0
    exact ⟨[], rfl, Nat.zero_le _, fun h => absurd h (by omega)⟩
  · simp only [List.cons.injEq, Value.slice.injEq, and_true] at hcs
    obtain ⟨rfl, rfl, rfl⟩ := hcs
    simp only [if_true] at hmm
    have hC : Try.prog.cellsOf 74 = 4 := by kernel_rfl
    have key : ∀ i, i < n → ∃ o : Fl, ∃ l, (∀ j v, (Fl.vs o l)[j]? = some v → W.cell? (a.add (i * 4 + j)) = some v) ∧ FlV W W.heap.size o l := by
      intro i hin
      obtain ⟨cs', hc, ht'⟩ := hi i (by omega)
      rw [hC] at hc
      obtain ⟨o, l, e, ho⟩ := open_FlN ht'
      obtain ⟨_, hcl, hat⟩ := World.cells?_some hc
      refine ⟨o, l, fun j v hj => ?_, ho⟩
      rw [← e] at hj
      have hjl : j < 4 := by have := (List.getElem?_eq_some_iff.1 hj).1; omega
      rw [← Go.Deep.add_add, hat j hjl, hj]
    have hnm : n ≤ maxLen := Nat.le_trans hl hm
    by_cases hn : 0 < n
    · obtain ⟨ab, ao, spot⟩ := a
      obtain ⟨o0, l0, h0, _⟩ := key 0 hn
      have h00 := h0 0 _ rfl
      have hspot : spot = none := by simpa [Addr.add] using World.cell?_spot h00
      subst hspot
      rw [Addr.add_lit] at h00
      obtain ⟨os, hl', hx'⟩ := list_of (α := Fl) (P := fun j o => ∃ l, FlAt W ab (ao + j * 4) o l ∧ FlV W W.heap.size o l) (n := n) fun i hin => by
        obtain ⟨o, l, hc, ho⟩ := key i hin
        have hc' : ∀ j v, (Fl.vs o l)[j]? = some v → W.cell? ⟨ab, ao + i * 4 + j, none⟩ = some v := by
          intro j v hj
          have := hc j v hj
          rw [Addr.add_lit, ← Nat.add_assoc] at this
          exact this
        exact ⟨o, l, ⟨hc' 0 _ rfl, hc' 1 _ rfl, hc' 2 _ rfl, hc' 3 _ rfl⟩, ho⟩
      exact ⟨os, hl', hnm, fun _ => ⟨ab, ao, rfl, World.block_lt_of_cell? W ⟨ab, _, none⟩ h00, hx'⟩⟩
    · exact ⟨[], by simp; omega, hnm, fun h => absurd h hn⟩
end
set_option maxRecDepth 100000 in
/-- An argument. -/
theorem open_Fl {H : Type} {enc : TypeId × Value → H} {W : World} {v : Value} {d : DataW H} {p : List MemPlace} {r : Reach} {b0 : Nat} (hv : Value.okWide Try.prog W r b0 74 v) (h : DataW.Trod enc Try.prog W 0 (fun _ => true) true 74 v d p) :
    ∃ x l, v = Fl.ag x l ∧ FlV W W.heap.size x l := by
  obtain ⟨cs, rfl, hsz⟩ := Go.WideShapes.okWide_struct Try.underlying74 hv
  obtain ⟨fuel, hf⟩ := h
  obtain ⟨x, l, e, ho⟩ := open_FlN hf
  refine ⟨x, l, ?_, ho⟩
  have : cs.toList = Fl.vs x l := e
  rw [show cs = (Fl.vs x l).toArray from by rw [← this]]
  rfl
theorem open_FlS {H : Type} {enc : TypeId × Value → H} {W : World} {A : Option Addr} {n c : Nat} {d : DataW H} {p : List MemPlace} (h : DataW.Trod enc Try.prog W 0 (fun _ => true) true 23 (.slice A n c) d p) :
    ∃ xs, FlI W W.heap.size A n xs := by
  obtain ⟨fuel, hf⟩ := h
  exact open_FlF (by simpa [Value.cells] using hf)

/-- What szFile takes of the bound. -/
def szFl1 (x : Fl) : Nat := x.name_.size + szSt x.lines_

set_option maxHeartbeats 2000000 in
set_option maxRecDepth 100000 in
theorem szFile_any (x : Fl) (l : FlLay) (L : Int) (W : World) (ho : FlV W W.heap.size x l) (hLL : 0 ≤ L) (hL : L ≤ 1048576) :
    Calls Try.prog 36 #[x.ag l, .int .i64 L] W (SzL (szFl1 x) L W) := by
  obtain ⟨s, hs⟩ : ∃ s, szFl1 x = s := ⟨_, rfl⟩
  rw [hs]
  unfold szFl1 at hs
  obtain ⟨x0, x1, x2, x3⟩ := x
  obtain ⟨A1, n1, c1, h1⟩ := l
  obtain ⟨k1, k0⟩ := ho
  try unfold FlV at k1 k0
  dsimp only at hs k1 k0
  have HS := Lib.hid hs
  have HL0 := Lib.hid hLL
  have HL1 := Lib.hid hL
  have HK1 := Lib.hid k1
  unfold maxLen at k0
  have HC := Lib.hid (fun X (e : X = W.alloc (.cells #[.string x0, .slice A1 n1 c1, .int .i64 x2, .int .i64 x3] 74)) => (show RW 74 X W.heap.size #[.string x0, .slice A1 n1 c1, .int .i64 x2, .int .i64 x3] ∧ Below W.heap.size W X ∧ W.heap.size < X.heap.size from by rw [e]; exact ⟨RW.new _ _ _, below_alloc _ _, lt_alloc _ _⟩))
  clear hs k1
  show Calls Try.prog 36 #[.agg #[.string x0, .slice A1 n1 c1, .int .i64 x2, .int .i64 x3], .int .i64 L] W _
  by_cases cc0 : (x0.size : Int) ≤ L
  · have C0 := Lib.hid cc0
    clear cc0
    by_cases cc1 : (x0.size : Int) + (szSt x1 : Int) ≤ L
    · have C1 := Lib.hid cc1
      clear cc1
      have d0 : decide (L - (x0.size : Int) < 0) = false := (by have := C0.out; simp; omega)
      go_enter Try.func36, Try.ntmps36
      go_wp2_with (go_at_call 15; obtain ⟨g0, g1, g2⟩ := HC.out _ rfl; have HQ := szStringS_any A1 n1 c1 x1 (L - (x0.size : Int)) _ (HK1.out.go g1) (by have := C0.out; have := HL0.out; omega) (by have := C0.out; have := HL1.out; omega); refine Calls.mono HQ ?_; clear HQ; intro e w1 h; obtain ⟨z1, rfl, hz1, l1, u1, hb⟩ := h.fits (by have := C0.out; have := C1.out; omega) (by have := C0.out; have := HL1.out; omega); have Z1 := Lib.hid hz1; have d1 : decide (z1 < 0) = false := (by simp; omega); have HR1 := Lib.hid (g0.below hb g2); have HB1 := Lib.hid (g1.trans (hb.mono g1.size)); have HG1 := Lib.hid (Nat.lt_of_lt_of_le g2 hb.size); clear hb hz1 g0 g1 g2 HK1)
      go_ret
      refine ⟨.inl ⟨by have := C0.out; have := C1.out; have := Z1.out; have := HS.out; omega, ?_⟩, HB1.out⟩
      have hx : z1 = L - (s : Int) := by have := C0.out; have := C1.out; have := Z1.out; have := HS.out; omega
      rw [← hx]
      rfl
    · have C1 := Lib.hid cc1
      clear cc1
      have d0 : decide (L - (x0.size : Int) < 0) = false := (by have := C0.out; simp; omega)
      go_enter Try.func36, Try.ntmps36
      go_wp2_with (go_at_call 15; obtain ⟨g0, g1, g2⟩ := HC.out _ rfl; have HQ := szStringS_any A1 n1 c1 x1 (L - (x0.size : Int)) _ (HK1.out.go g1) (by have := C0.out; have := HL0.out; omega) (by have := C0.out; have := HL1.out; omega); refine Calls.mono HQ ?_; clear HQ; intro e w1 h; obtain ⟨rfl, hb⟩ := h.long (by have := C0.out; have := C1.out; omega); have HR1 := Lib.hid (g0.below hb g2); have HB1 := Lib.hid (g1.trans (hb.mono g1.size)); have HG1 := Lib.hid (Nat.lt_of_lt_of_le g2 hb.size); clear hb g0 g1 g2 HK1)
      go_ret
      exact ⟨.inr ⟨by have := C0.out; have := C1.out; have := HS.out; omega, rfl⟩, HB1.out⟩
  · have C0 := Lib.hid cc0
    clear cc0
    have d0 : decide (L - (x0.size : Int) < 0) = true := (by have := C0.out; simp; omega)
    go_enter Try.func36, Try.ntmps36
    go_wp2_with fail
    go_ret
    exact ⟨.inr ⟨by have := C0.out; have := HS.out; omega, rfl⟩, (below_alloc _ _)⟩

/-- Those of the first k. -/
def sumFl (xs : List Fl) : Nat → Nat
  | 0 => 0
  | k + 1 => sumFl xs k + ((xs[k]?.map szFl1).getD 0)
theorem sumFl_next {xs : List Fl} {k : Nat} {x : Fl} (h : xs[k]? = some x) : sumFl xs (k + 1) = sumFl xs k + szFl1 x := by
  rw [sumFl, h]
  rfl
theorem sumFl_mono {xs : List Fl} {j : Nat} : ∀ {k : Nat}, j ≤ k → sumFl xs j ≤ sumFl xs k
  | 0, h => by obtain rfl : j = 0 := by omega
               exact Nat.le_refl _
  | k + 1, h => by
    by_cases e : j = k + 1
    · rw [e]; exact Nat.le_refl _
    · have := sumFl_mono (xs := xs) (show j ≤ k by omega)
      rw [sumFl]
      omega
def szFl (xs : List Fl) : Nat := xs.length + sumFl xs xs.length

set_option maxHeartbeats 1000000 in
set_option maxRecDepth 100000 in
theorem szFileS_any (A : Option Addr) (n c : Nat) (xs : List Fl) (L : Int) (W : World) (hr : FlI W W.heap.size A n xs) (h0 : 0 ≤ L) (hL : L ≤ 1048576) :
    Calls Try.prog 16 #[.slice A n c, .int .i64 L] W (SzL (szFl xs) L W) := by
  have HR := Lib.hid hr
  have hn := hr.2.1
  have hxn := hr.1
  clear hr
  obtain ⟨s, hs⟩ : ∃ s, szFl xs = s := ⟨_, rfl⟩
  have HS : Hid (s = n + sumFl xs n) := by show _ = _; rw [← hs, szFl, hxn]
  rw [hs]
  clear hs hxn
  unfold maxLen at hn
  by_cases hbig : L < (n : Int)
  · have HB : Hid (L < (s : Int)) := by show _ < _; have := HS.out; omega
    have h2 : (n : Int) ≤ 9223372036854775807 := by omega
    have d0 : decide (L - n < 0) = true := by simp; omega
    go_enter Try.func16, Try.ntmps16
    go_wp2_with fail
    go_ret
    exact ⟨.inr ⟨HB.out, rfl⟩, Below.refl _ _⟩
  · have h1 : (n : Int) ≤ L := by omega
    have hn' : n ≤ 1048576 := by omega
    have d0 : decide (L - n < 0) = false := by simp; omega
    clear hbig
    go_enter Try.func16, Try.ntmps16
    go_wp2_with fail
    go_loopw [1, 5] (fun q i wr => ∃ k : Nat, ∃ z : Int, k ≤ n ∧ i = .int .i64 k ∧ q = .int .i64 z ∧ 0 ≤ z ∧ z ≤ 1048576 ∧ Hid (z = L - (n : Int) - (sumFl xs k : Int)) ∧ Hid (Below W.heap.size W wr)) (fun _ i _ => n - (intOf i).toNat)
    case atStart => exact ⟨0, _, Nat.zero_le _, rfl, rfl, by omega, by omega, by show _ = _; simp [sumFl], Below.refl _ _⟩
    case round =>
      obtain ⟨k, z, hk, rfl, rfl, hz0, hz1, HZ, HW⟩ := hrel
      by_cases hlt : k < n
      · obtain ⟨b, off, x, l, rfl, hg, hx, ⟨q0, q1, q2, q3⟩, hov⟩ := (HR.out.below HW.out).at_ hlt
        have HO := Lib.hid (hov.more HW.out.size)
        have HX := Lib.hid hx
        have b0 : (0 : Int) ≤ (k : Int) := by omega
        have b1 : (k : Int) < (n : Int) := by omega
        have HZ0 : Hid (0 ≤ z) := hz0
        have HZ1 : Hid (z ≤ 1048576) := hz1
        clear hx hov hg
        by_cases hf : (szFl1 x : Int) ≤ z
        · have HF := Lib.hid hf
          have HN : Hid (sumFl xs (k + 1) = sumFl xs k + szFl1 x) := sumFl_next HX.out
          clear hf
          go_wp2_with (go_at_call 36; refine (szFile_any x l _ _ HO.out HZ0.out HZ1.out).mono ?_; intro e w1 h; obtain ⟨z1, rfl, hz2, l1, u1, hb⟩ := h.fits HF.out HZ1.out; have Z1 := Lib.hid hz2; have dz : decide (z1 < 0) = false := (by simp; omega); have HW1 : Hid (Below W.heap.size W w1) := HW.out.trans (hb.mono HW.out.size); clear hb hz2)
          go_roundw
          case rel => exact ⟨k + 1, _, by omega, by go_num, rfl, by omega, by omega, by show _ = _; rw [HN.out, Z1.out, HZ.out]; omega, HW1⟩
          case measure => simp [intOf]; omega
        · have HF := Lib.hid hf
          have HBIG : Hid (L < (s : Int)) := by
            show _ < _
            have h1 := sumFl_mono (xs := xs) (j := k + 1) (k := n) (by omega)
            rw [sumFl_next HX.out] at h1
            have h2 := HZ.out
            have h3 := HS.out
            omega
          clear hf
          go_wp2_with (go_at_call 36; refine (szFile_any x l _ _ HO.out HZ0.out HZ1.out).mono ?_; intro e w1 h; obtain ⟨rfl, hb⟩ := h.long HF.out; have HW1 : Hid (Below W.heap.size W w1) := HW.out.trans (hb.mono HW.out.size); clear hb)
          go_ret
          exact ⟨.inr ⟨HBIG.out, rfl⟩, HW1.out⟩
      · have hkn : k = n := by omega
        have HE : Hid ((s : Int) ≤ L ∧ z = L - (s : Int)) := by
          have h := HZ.out
          have h3 := HS.out
          rw [hkn] at h
          exact ⟨by omega, by omega⟩
        go_wp2_with fail
        go_ret
        exact ⟨.inl ⟨HE.out.1, by rw [HE.out.2]; rfl⟩, HW.out⟩
/-- No list is too long. -/
def FlSmall (x : Fl) : Prop := x.lines_.length ≤ 1048576
theorem small_Fl1 {x : Fl} (h : (szFl1 x : Int) ≤ 1048576) : FlSmall x := by
  unfold szFl1 at h
  unfold FlSmall
  exact (by unfold szSt at h; omega)
theorem small_Fl {xs : List Fl} (h : (szFl xs : Int) ≤ 1048576) : (∀ (j : Nat) (x : Fl), xs[j]? = some x → FlSmall x) ∧ xs.length ≤ 1048576 := by
  unfold szFl at h
  refine ⟨fun j x hx => small_Fl1 ?_, by omega⟩
  have hl := (List.getElem?_eq_some_iff.1 hx).1
  have h1 := sumFl_mono (xs := xs) (j := j + 1) (k := xs.length) (by omega)
  rw [sumFl_next hx] at h1
  omega
end Go.Proofs.Ytjhemdgeafglhaa

namespace Go.Proofs.Ytjhemdgeafglhaa
open Go Go.RowKit

/-- What toFile answers. -/
def ToFl (x : Fl) (W : World) (e : Ending) (w' : World) : Prop := ∃ l, e = .returned (x.ag l) ∧ Hid (FlV w' w'.heap.size x l ∧ Below W.heap.size W w' ∧ l.n1 = x.lines_.length ∧ ∃ b1, l.A1 = some ⟨b1, 0, none⟩ ∧ W.heap.size ≤ b1)

set_option maxHeartbeats 2000000 in
set_option maxRecDepth 100000 in
theorem toFile_any (x : Fl) (l : FlLay) (W : World) (ho : FlV W W.heap.size x l) (hsm : FlSmall x) :
    Calls Try.prog 37 #[x.ag l] W (ToFl x W) := by
  obtain ⟨x0, x1, x2, x3⟩ := x
  obtain ⟨A1, n1, c1, h1⟩ := l
  obtain ⟨k1, k0⟩ := ho
  have s1 := hsm
  try unfold FlV at k1 k0
  try unfold FlSmall at s1
  dsimp only at k1 k0 s1
  rw [k1.1] at s1
  have HK1 := Lib.hid k1
  have HS1 := Lib.hid s1
  have HT0 := Lib.hid k0
  clear k1 k0 s1
  have HC := Lib.hid (fun (X Y : World) (T T' : TypeId) (c c' : Array Value) (eY : Y = W.alloc (.cells #[.string x0, .slice A1 n1 c1, .int .i64 x2, .int .i64 x3] T)) (eX : X = (Y.alloc (.cells c T')).alloc (.cells c' T')) =>
    (show RW T X W.heap.size #[.string x0, .slice A1 n1 c1, .int .i64 x2, .int .i64 x3] ∧ RW T' X (W.heap.size + 1 + 1) c' ∧ RW T' X (W.heap.size + 1) c ∧ Below W.heap.size W X ∧ X.heap.size = W.heap.size + 3 from by
      subst eX; subst eY
      refine ⟨((RW.new W _ T).alloc _).alloc _, ?_, ?_, ((below_alloc _ _).alloc (by simp) _).alloc (by simp; omega) _, by simp⟩
      · have := RW.new ((W.alloc (.cells #[.string x0, .slice A1 n1 c1, .int .i64 x2, .int .i64 x3] T)).alloc (.cells c T')) c' T'
        simpa using this
      · have := (RW.new (W.alloc (.cells #[.string x0, .slice A1 n1 c1, .int .i64 x2, .int .i64 x3] T)) c T').alloc (.cells c' T')
        simpa using this))
  show Calls Try.prog 37 #[.agg #[.string x0, .slice A1 n1 c1, .int .i64 x2, .int .i64 x3]] W _
  go_enter Try.func37, Try.ntmps37
  go_wp2_with (go_at_call 19; obtain ⟨g0, g1, g4, g2, g3⟩ := HC.out _ _ _ _ _ _ rfl rfl; have HQ := toStringS_any A1 n1 c1 x1 _ (HK1.out.go g2) HS1.out; refine Calls.mono HQ ?_; clear HQ; rintro e w1 ⟨rfl, h⟩; obtain ⟨hv, hb⟩ := h.out; have hd := hv.det; rw [g3] at hv hd; have HA1 := Lib.hid (g0.below hb (by omega)); have HR1 := Lib.hid (g1.below hb (by omega)); have HO1 := Lib.hid (g4.below hb (by omega)); have HB1 := Lib.hid (g2.trans (hb.mono g2.size)); have HV1_1 : Hid (Det (W.heap.size + 1 + 1 + 1) w1.heap.size w1 fun w => StI w w1.heap.size (some ⟨W.heap.size + 1 + 1 + 1, 0, none⟩) n1 x1) := hd; have HG1 : Hid (W.heap.size + 3 ≤ w1.heap.size) := (by have := hb.size; show _ ≤ _; omega); clear g0 g1 g2 g3 g4 h hv hd hb HK1; have q12 : w1.cell? ⟨W.heap.size, 2, none⟩ = some (.int .i64 x2) := HA1.out.cell 2; have q13 : w1.cell? ⟨W.heap.size, 3, none⟩ = some (.int .i64 x3) := HA1.out.cell 3; have p11 : w1.cell? ⟨W.heap.size + 1 + 1, 1, none⟩ = some (.slice none 0 0) := HR1.out.cell 1; have f11 := HR1.out.frozen 1; have p12 : w1.cell? ⟨W.heap.size + 1 + 1, 2, none⟩ = some (.int .i64 0) := HR1.out.cell 2; have f12 := HR1.out.frozen 2; have p13 : w1.cell? ⟨W.heap.size + 1 + 1, 3, none⟩ = some (.int .i64 0) := HR1.out.cell 3; have f13 := HR1.out.frozen 3; have p10 : w1.cell? ⟨W.heap.size + 1 + 1, 0, none⟩ = some (.string x0) := HR1.out.cell 0; have r0 : w1.cell? ⟨W.heap.size + 1, 0, none⟩ = some (.string ⟨#[]⟩) := HO1.out.cell 0; have z0 := HO1.out.frozen 0; have r1 : w1.cell? ⟨W.heap.size + 1, 1, none⟩ = some (.slice none 0 0) := HO1.out.cell 1; have z1 := HO1.out.frozen 1; have r2 : w1.cell? ⟨W.heap.size + 1, 2, none⟩ = some (.int .i64 0) := HO1.out.cell 2; have z2 := HO1.out.frozen 2; have r3 : w1.cell? ⟨W.heap.size + 1, 3, none⟩ = some (.int .i64 0) := HO1.out.cell 3; have z3 := HO1.out.frozen 3)
  have hs1 := HG1.out
  have hb1 : Below (W.heap.size + 1) w1 (((((((w1.setCell ⟨W.heap.size + 1 + 1, 1, none⟩ (.slice (some ⟨W.heap.size + 1 + 1 + 1, 0, none⟩) n1 n1)).setCell ⟨W.heap.size + 1 + 1, 2, none⟩ (.int .i64 x2)).setCell ⟨W.heap.size + 1 + 1, 3, none⟩ (.int .i64 x3)).setCell ⟨W.heap.size + 1, 0, none⟩ (.string x0)).setCell ⟨W.heap.size + 1, 1, none⟩ (.slice (some ⟨W.heap.size + 1 + 1 + 1, 0, none⟩) n1 n1)).setCell ⟨W.heap.size + 1, 2, none⟩ (.int .i64 x2)).setCell ⟨W.heap.size + 1, 3, none⟩ (.int .i64 x3)) := (((((((below_set w1 (p := ⟨W.heap.size + 1 + 1, 1, none⟩) (by simp) _).setCell (by simp) _).setCell (by simp) _).setCell (by simp) _).setCell (by simp) _).setCell (by simp) _).setCell (by simp) _)
  have hzz : (((((((w1.setCell ⟨W.heap.size + 1 + 1, 1, none⟩ (.slice (some ⟨W.heap.size + 1 + 1 + 1, 0, none⟩) n1 n1)).setCell ⟨W.heap.size + 1 + 1, 2, none⟩ (.int .i64 x2)).setCell ⟨W.heap.size + 1 + 1, 3, none⟩ (.int .i64 x3)).setCell ⟨W.heap.size + 1, 0, none⟩ (.string x0)).setCell ⟨W.heap.size + 1, 1, none⟩ (.slice (some ⟨W.heap.size + 1 + 1 + 1, 0, none⟩) n1 n1)).setCell ⟨W.heap.size + 1, 2, none⟩ (.int .i64 x2)).setCell ⟨W.heap.size + 1, 3, none⟩ (.int .i64 x3)).heap.size = w1.heap.size := by simp [World.setCell]
  refine bodyPost_ret (v := .agg #[.string x0, .slice (some ⟨W.heap.size + 1 + 1 + 1, 0, none⟩) n1 n1, .int .i64 x2, .int .i64 x3]) (results_cell_row Try.results37 _ _ (W.heap.size + 1) 62 _ (0, 0) _ rfl ((((((((((((((HO1.out).other (p := ⟨W.heap.size + 1 + 1, 1, none⟩) (by simp) (.slice (some ⟨W.heap.size + 1 + 1 + 1, 0, none⟩) n1 n1))).other (p := ⟨W.heap.size + 1 + 1, 2, none⟩) (by simp) (.int .i64 x2))).other (p := ⟨W.heap.size + 1 + 1, 3, none⟩) (by simp) (.int .i64 x3))).set_ 0 (.string x0))).set_ 1 (.slice (some ⟨W.heap.size + 1 + 1 + 1, 0, none⟩) n1 n1))).set_ 2 (.int .i64 x2))).set_ 3 (.int .i64 x3)) Try.underlying62 rfl (by kernel_rfl)) rfl ⟨⟨some ⟨W.heap.size + 1 + 1 + 1, 0, none⟩, n1, n1, Nat.le_refl _⟩, rfl, Lib.hid ⟨?_, HB1.out.trans (hb1.mono (by omega)), HV1_1.out.self.1.symm, _, rfl, by omega⟩⟩
  show FlV (((((((w1.setCell ⟨W.heap.size + 1 + 1, 1, none⟩ (.slice (some ⟨W.heap.size + 1 + 1 + 1, 0, none⟩) n1 n1)).setCell ⟨W.heap.size + 1 + 1, 2, none⟩ (.int .i64 x2)).setCell ⟨W.heap.size + 1 + 1, 3, none⟩ (.int .i64 x3)).setCell ⟨W.heap.size + 1, 0, none⟩ (.string x0)).setCell ⟨W.heap.size + 1, 1, none⟩ (.slice (some ⟨W.heap.size + 1 + 1 + 1, 0, none⟩) n1 n1)).setCell ⟨W.heap.size + 1, 2, none⟩ (.int .i64 x2)).setCell ⟨W.heap.size + 1, 3, none⟩ (.int .i64 x3)) (((((((w1.setCell ⟨W.heap.size + 1 + 1, 1, none⟩ (.slice (some ⟨W.heap.size + 1 + 1 + 1, 0, none⟩) n1 n1)).setCell ⟨W.heap.size + 1 + 1, 2, none⟩ (.int .i64 x2)).setCell ⟨W.heap.size + 1 + 1, 3, none⟩ (.int .i64 x3)).setCell ⟨W.heap.size + 1, 0, none⟩ (.string x0)).setCell ⟨W.heap.size + 1, 1, none⟩ (.slice (some ⟨W.heap.size + 1 + 1 + 1, 0, none⟩) n1 n1)).setCell ⟨W.heap.size + 1, 2, none⟩ (.int .i64 x2)).setCell ⟨W.heap.size + 1, 3, none⟩ (.int .i64 x3)).heap.size ⟨x0, x1, x2, x3⟩ ⟨some ⟨W.heap.size + 1 + 1 + 1, 0, none⟩, n1, n1, Nat.le_refl _⟩
  rw [hzz]
  exact ⟨((((((((((((((HV1_1.out).set (p := ⟨W.heap.size + 1 + 1, 1, none⟩) (by first | (dsimp only; omega) | omega) _)).set (p := ⟨W.heap.size + 1 + 1, 2, none⟩) (by first | (dsimp only; omega) | omega) _)).set (p := ⟨W.heap.size + 1 + 1, 3, none⟩) (by first | (dsimp only; omega) | omega) _)).set (p := ⟨W.heap.size + 1, 0, none⟩) (by first | (dsimp only; omega) | omega) _)).set (p := ⟨W.heap.size + 1, 1, none⟩) (by first | (dsimp only; omega) | omega) _)).set (p := ⟨W.heap.size + 1, 2, none⟩) (by first | (dsimp only; omega) | omega) _)).set (p := ⟨W.heap.size + 1, 3, none⟩) (by first | (dsimp only; omega) | omega) _).self, HT0.out⟩

/-- The elements of block g ahead of j are filled; their lists lie elsewhere. -/
def FilledFl (w : World) (g j n : Nat) (xs : List Fl) : Prop :=
  ∃ cs, RW 62 w g cs ∧ n * 4 ≤ cs.size ∧ ∀ (i : Nat) (x : Fl), i < j → xs[i]? = some x → ∃ l b1, l.A1 = some ⟨b1, 0, none⟩ ∧ g < b1 ∧ FlV w w.heap.size x l ∧ ∀ (q : Nat) (v : Value), (x.vs l)[q]? = some v → cs[i * 4 + q]? = some v
theorem FilledFl.below {w w' : World} {g j n : Nat} {xs : List Fl} (h : FilledFl w g j n xs) (hb : Below w.heap.size w w') : FilledFl w' g j n xs := by
  obtain ⟨cs, hr, hn, hm⟩ := h
  refine ⟨cs, hr.below hb hr.lt, hn, fun i x hi hx => ?_⟩
  obtain ⟨l, b1, h1, u1, h5, h6⟩ := hm i x hi hx
  exact ⟨l, b1, h1, u1, (h5.below hb).more hb.size, h6⟩
theorem FlV.others {w : World} {B g o : Nat} {x : Fl} {l : FlLay} {b1 : Nat} (h : FlV w B x l) (h1 : l.A1 = some ⟨b1, 0, none⟩) (u1 : b1 ≠ g) (vs : List Value) : FlV (w.setCells g o vs) B x l := by
  obtain ⟨a0, a1⟩ := h
  try unfold FlV at a0 a1 ⊢
  rw [h1] at a0
  refine ⟨?_, a1⟩
  · rw [h1]; exact a0.others u1
theorem size_setsFl (vs : List Value) (w : World) (g k : Nat) : (w.setCells g k vs).heap.size = w.heap.size := by
  induction vs generalizing w k with
  | nil => rfl
  | cons v r ih => exact (ih _ _).trans (size_set _ _ _)
theorem FilledFl.store {w : World} {g j n : Nat} {xs : List Fl} {x : Fl} {l : FlLay} {b1 : Nat} (h : FilledFl w g j n xs) (hx : xs[j]? = some x) (hj : j < n) (h1 : l.A1 = some ⟨b1, 0, none⟩) (u1 : g < b1) (h5 : FlV w w.heap.size x l) :
    FilledFl (w.setCells g (j * 4) (x.vs l)) g (j + 1) n xs := by
  obtain ⟨cs, hr, hn, hm⟩ := h
  have hs : (w.setCells g (j * 4) (x.vs l)).heap.size = w.heap.size := size_setsFl _ _ _ _
  have hlK : (x.vs l).length = 4 := rfl
  refine ⟨_, hr.cells, by rw [putL_size]; exact hn, fun i y hi hy => ?_⟩
  by_cases e : i = j
  · subst e
    rw [hx, Option.some.injEq] at hy
    subst hy
    refine ⟨l, b1, h1, u1, ?_, fun q v hq => putL_new _ _ _ _ _ (by rw [hlK]; omega) hq⟩
    rw [hs]
    exact h5.others h1 (by omega) _
  · obtain ⟨l', b1', j1, v1, k5, k6⟩ := hm i y (by omega) hy
    refine ⟨l', b1', j1, v1, ?_, fun q v hq => ?_⟩
    · rw [hs]
      exact k5.others j1 (by omega) _
    · have hqK : q < 4 := (List.getElem?_eq_some_iff.1 hq).1
      rw [putL_old _ _ _ _ (by omega)]
      exact k6 q v hq
theorem FilledFl.all {w : World} {g n : Nat} {xs : List Fl} (h : FilledFl w g n n xs) (hl : xs.length = n) (hn : n ≤ maxLen) : FlI w w.heap.size (some ⟨g, 0, none⟩) n xs := by
  obtain ⟨cs, hr, hc, hm⟩ := h
  refine ⟨hl, hn, fun _ => ⟨g, 0, rfl, hr.lt, fun j x hx => ?_⟩⟩
  obtain ⟨l, _, _, _, h5, h6⟩ := hm j x (by rw [← hl]; exact (List.getElem?_eq_some_iff.1 hx).1) hx
  rw [Nat.zero_add]
  have k : ∀ q v, (x.vs l)[q]? = some v → w.cell? ⟨g, j * 4 + q, none⟩ = some v := fun q v hq => (hr.cell _).trans (h6 q v hq)
  exact ⟨l, ⟨k 0 _ rfl, k 1 _ rfl, k 2 _ rfl, k 3 _ rfl⟩, h5⟩
theorem FilledFl.det {w : World} {g n : Nat} {xs : List Fl} (h : FilledFl w g n n xs) (hl : xs.length = n) (hn : n ≤ maxLen) : Det g w.heap.size w fun w' => FlI w' w.heap.size (some ⟨g, 0, none⟩) n xs := by
  intro w' hk
  obtain ⟨cs, hr, hc, hm⟩ := h
  have hr' : RW 62 w' g cs := (hk g (Nat.le_refl _) hr.lt).trans hr
  refine ⟨hl, hn, fun _ => ⟨g, 0, rfl, hr.lt, fun j x hx => ?_⟩⟩
  obtain ⟨l, b1, h1, u1, h5, h6⟩ := hm j x (by rw [← hl]; exact (List.getElem?_eq_some_iff.1 hx).1) hx
  rw [Nat.zero_add]
  have k : ∀ q v, (x.vs l)[q]? = some v → w'.cell? ⟨g, j * 4 + q, none⟩ = some v := fun q v hq => (hr'.cell _).trans (h6 q v hq)
  refine ⟨l, ⟨k 0 _ rfl, k 1 _ rfl, k 2 _ rfl, k 3 _ rfl⟩, ?_⟩
  obtain ⟨a0, a1⟩ := h5
  try unfold FlV at a0 a1 ⊢
  refine ⟨?_, a1⟩
  · rw [h1] at a0 ⊢; exact a0.det w' fun g' h1 h2 => hk g' (by omega) h2
theorem infoFl : (Try.prog.info? 62).map (fun i => (i.zero, i.size, i.bytes)) = some (some (Value.agg #[.string ⟨#[]⟩, .slice none 0 0, .int .i64 0, .int .i64 0]), 4, 56) := by kernel_rfl
theorem ownFl {w : World} {B g n : Nat} {xs : List Value} (h : w.ownsRow B 62 4 (.slice (some ⟨g, 0, none⟩) n n) n xs) : ∃ cs, RW 62 w g cs ∧ n * 4 ≤ cs.size := by
  rcases h.2 with ⟨h', _⟩ | ⟨g', cap', cur, h', _, hg, _, _, hsz, _⟩
  · simp at h'
  · simp only [Value.slice.injEq, Option.some.injEq, Addr.mk.injEq, and_true, true_and] at h'
    obtain ⟨rfl, rfl⟩ := h'
    exact ⟨cur, hg, by omega⟩
/-- What toFileS answers. -/
def ToFlS (xs : List Fl) (n : Nat) (W : World) (e : Ending) (w' : World) : Prop :=
  e = .returned (.slice (some ⟨W.heap.size, 0, none⟩) n n) ∧ Hid (FlI w' w'.heap.size (some ⟨W.heap.size, 0, none⟩) n xs ∧ Below W.heap.size W w' ∧ Det W.heap.size w'.heap.size w' fun w => FlI w w'.heap.size (some ⟨W.heap.size, 0, none⟩) n xs)

set_option maxHeartbeats 2000000 in
set_option maxRecDepth 100000 in
theorem toFileS_any (A : Option Addr) (n c : Nat) (xs : List Fl) (W : World) (hr : FlI W W.heap.size A n xs) (hs : ∀ (j : Nat) (x : Fl), xs[j]? = some x → FlSmall x) (hn : n ≤ 1048576) :
    Calls Try.prog 20 #[.slice A n c] W (ToFlS xs n W) := by
  obtain ⟨i0, hi, hz0, hz1, hz2⟩ := info_parts infoFl
  have HR := Lib.hid hr
  have HS := Lib.hid hs
  have h1 : (n : Int) ≤ 1048576 := by omega
  clear hr hs
  go_enter Try.func20, Try.ntmps20
  go_wp2_with (at_make; refine wpList_make_full _ rfl _ _ 28 rfl W.heap.size 62 i0 (.agg #[.string ⟨#[]⟩, .slice none 0 0, .int .i64 0, .int .i64 0]) 4 Try.underlying28 hi hz0 hz1 .i64 .i64 n n n rfl rfl rfl rfl (by rw [hz2]; omega) (by unfold maxLen; omega) (Nat.le_refl _) ?_)
  intro w1 hown hgrow
  have HB1 : Hid (Below W.heap.size W w1) := below_grown_none hgrow
  obtain ⟨cs, hcs, hcn⟩ := ownFl hown
  have HG : Hid (W.heap.size < w1.heap.size) := hcs.lt
  have HM : Hid (FilledFl w1 W.heap.size 0 n xs) := ⟨cs, hcs, hcn, fun i x hi => absurd hi (by omega)⟩
  clear hown hgrow hcs hcn hi hz0 hz1 hz2
  go_wp2_with fail
  go_loopw [4] (fun i wr => ∃ j : Nat, j ≤ n ∧ i = .int .i64 j ∧ Hid (Below W.heap.size W wr) ∧ Hid (W.heap.size < wr.heap.size) ∧ Hid (FilledFl wr W.heap.size j n xs)) (fun i _ => n - (intOf i).toNat)
  case atStart => exact ⟨0, Nat.zero_le _, rfl, HB1, HG, HM⟩
  case round =>
    obtain ⟨j, hj, rfl, HW, HZ, HJ⟩ := hrel
    by_cases hlt : j < n
    · obtain ⟨b, off, x, l, rfl, hg, hx, ⟨q0, q1, q2, q3⟩, hov⟩ := (HR.out.below HW.out).at_ hlt
      have HX := Lib.hid hx
      have HO := Lib.hid (hov.more HW.out.size)
      have HLT := Lib.hid hlt
      have HS1 := Lib.hid (HS.out j x hx)
      clear hx hov hg
      have b0 : (0 : Int) ≤ (j : Int) := by omega
      have b1 : (j : Int) < (n : Int) := by omega
      go_wp2_with (first | (go_at_call 37; have HQ := toFile_any x l _ HO.out HS1.out; refine Calls.mono HQ ?_; clear HQ; rintro e w2 ⟨⟨A1, n1, c1, h1⟩, rfl, h⟩; obtain ⟨g1, hb, en1, b1, e1, g1g⟩ := h.out; clear en1; have HF := Lib.hid (HJ.out.below hb); have hlt2 := HLT.out; have hzz := HZ.out; have HF2 : Hid (FilledFl (w2.setCells W.heap.size (j * 4) [.string x.name_, .slice A1 n1 c1, .int .i64 x.mode_, .int .i64 x.at_]) W.heap.size (j + 1) n xs) := (by have k := HF.out.store HX.out hlt2 e1 (Nat.lt_of_lt_of_le hzz g1g) g1; unfold Fl.vs at k; exact k); have HT : Hid (w2.there W.heap.size (j * 4) 4) := (by obtain ⟨cs, hr, hc, _⟩ := HF.out; exact hr.there (by omega)); have HW2 : Hid (Below W.heap.size W (w2.setCells W.heap.size (j * 4) [.string x.name_, .slice A1 n1 c1, .int .i64 x.mode_, .int .i64 x.at_])) := ((HW.out.trans (hb.mono HW.out.size)).trans (below_cells (Nat.le_refl _) _ _ _)); have HZ2 : Hid (W.heap.size < (w2.setCells W.heap.size (j * 4) [.string x.name_, .slice A1 n1 c1, .int .i64 x.mode_, .int .i64 x.at_]).heap.size) := (by obtain ⟨_, hr, _⟩ := HF2.out; exact hr.lt); have tk1 : True := trivial; clear h g1 hb e1 g1g hlt2 hzz q0 q1 q2 q3) | (clear tk1; refine wpList_store_mid rfl 62 (.tmp 21) (.tmp 20) rfl W.heap.size (j * 4) _ rfl rfl HT.out (by kernel_rfl) (by kernel_rfl) ?_; go_frame; clear HT; generalize w2.setCells W.heap.size (j * 4) [.string x.name_, .slice A1 n1 c1, .int .i64 x.mode_, .int .i64 x.at_] = w3 at HF2 HW2 HZ2 ⊢))
      go_roundw
      case rel => exact ⟨j + 1, by omega, by go_num, HW2, HZ2, HF2⟩
      case measure => simp [intOf]; omega
    · have HN : Hid (j = n) := by show _ = _; omega
      go_wp2_with fail
      go_ret
      have h := HJ.out
      rw [HN.out] at h
      exact ⟨rfl, Lib.hid ⟨h.all HR.out.1 HR.out.2.1, HW.out, h.det HR.out.1 HR.out.2.1⟩⟩
end Go.Proofs.Ytjhemdgeafglhaa

namespace Go.Proofs.Ytjhemdgeafglhaa
open Go Go.RowKit

set_option maxHeartbeats 1000000 in
set_option maxRecDepth 100000 in
theorem eqFile_same (x : Fl) (l l' : FlLay) (W : World) (ho : FlV W W.heap.size x l) (ho' : FlV W W.heap.size x l') :
    Calls Try.prog 38 #[x.ag l, x.ag l'] W fun e w' => e = .returned (.bool true) ∧ Below W.heap.size W w' := by
  obtain ⟨x0, x1, x2, x3⟩ := x
  obtain ⟨A1, n1, c1, h1⟩ := l
  obtain ⟨A1', n1', c1', h1'⟩ := l'
  obtain ⟨k1, k0⟩ := ho
  obtain ⟨j1, j0⟩ := ho'
  try unfold FlV at k1 j1 k0 j0
  dsimp only at k1 j1 k0 j0
  obtain rfl : n1 = n1' := k1.1.symm.trans j1.1
  have HK1 := Lib.hid k1
  have HJ1 := Lib.hid j1
  clear k1 j1 k0 j0
  have HC := Lib.hid (two_new W 62 #[.string x0, .slice A1 n1 c1, .int .i64 x2, .int .i64 x3] #[.string x0, .slice A1' n1 c1', .int .i64 x2, .int .i64 x3])
  show Calls Try.prog 38 #[.agg #[.string x0, .slice A1 n1 c1, .int .i64 x2, .int .i64 x3], .agg #[.string x0, .slice A1' n1 c1', .int .i64 x2, .int .i64 x3]] W _
  go_enter Try.func38, Try.ntmps38
  go_wp2_with (go_at_call 24; obtain ⟨g0, g1, g2, g3⟩ := HC.out _ rfl; have HQ := eqStringS_same A1 A1' n1 c1 c1' x1 _ (HK1.out.go g2) (HJ1.out.go g2); refine Calls.mono HQ ?_; clear HQ; rintro e w1 ⟨rfl, hb⟩; have HA1 := Lib.hid (g0.below hb (by omega)); have HD1 := Lib.hid (g1.below hb (by omega)); have HB1 := Lib.hid (g2.trans (hb.mono g2.size)); have HG1 : Hid (W.heap.size + 2 ≤ w1.heap.size) := (by have := hb.size; show _ ≤ _; omega); have q12 : w1.cell? ⟨W.heap.size, 2, none⟩ = some (.int .i64 x2) := HA1.out.cell 2; have p12 : w1.cell? ⟨W.heap.size + 1, 2, none⟩ = some (.int .i64 x2) := HD1.out.cell 2; have q13 : w1.cell? ⟨W.heap.size, 3, none⟩ = some (.int .i64 x3) := HA1.out.cell 3; have p13 : w1.cell? ⟨W.heap.size + 1, 3, none⟩ = some (.int .i64 x3) := HD1.out.cell 3; clear g0 g1 g2 g3 hb HK1)
  all_goals go_ret
  all_goals exact ⟨rfl, HB1.out⟩

/-- Two in two blocks, and their lists. -/
def TwoFl (wr : World) (b b' p p' : Nat) (x y : Fl) (l l' : FlLay) (w : World) : Prop := FlAt w b p x l ∧ FlAt w b' p' y l' ∧ FlV w w.heap.size x l ∧ FlV w w.heap.size y l' ∧ Below wr.heap.size wr w ∧ b < w.heap.size ∧ b' < w.heap.size
theorem TwoFl.grow {wr w w' : World} {b b' p p' : Nat} {x y : Fl} {l l' : FlLay} (h : TwoFl wr b b' p p' x y l l' w) (hb : Below w.heap.size w w') : TwoFl wr b b' p p' x y l l' w' :=
  ⟨h.1.below hb h.2.2.2.2.2.1, h.2.1.below hb h.2.2.2.2.2.2, (h.2.2.1.below hb).more hb.size, (h.2.2.2.1.below hb).more hb.size, h.2.2.2.2.1.trans (hb.mono h.2.2.2.2.1.size), Nat.lt_of_lt_of_le h.2.2.2.2.2.1 hb.size, Nat.lt_of_lt_of_le h.2.2.2.2.2.2 hb.size⟩
/-- .. cell by cell, as the walk of a region asks it. -/
abbrev FlatFl (wr : World) (b b' p p' : Nat) (x y : Fl) (l l' : FlLay) (w : World) : Prop := (w.cell? ⟨b, p, none⟩ = some (.string x.name_) ∧ w.cell? ⟨b, p + 1, none⟩ = some (.slice l.A1 l.n1 l.c1) ∧ w.cell? ⟨b, p + 2, none⟩ = some (.int .i64 x.mode_) ∧ w.cell? ⟨b, p + 3, none⟩ = some (.int .i64 x.at_)) ∧ (w.cell? ⟨b', p', none⟩ = some (.string y.name_) ∧ w.cell? ⟨b', p' + 1, none⟩ = some (.slice l'.A1 l'.n1 l'.c1) ∧ w.cell? ⟨b', p' + 2, none⟩ = some (.int .i64 y.mode_) ∧ w.cell? ⟨b', p' + 3, none⟩ = some (.int .i64 y.at_)) ∧ TwoFl wr b b' p p' x y l l' w
theorem TwoFl.flat {wr w : World} {b b' p p' : Nat} {x y : Fl} {l l' : FlLay} (h : TwoFl wr b b' p p' x y l l' w) : FlatFl wr b b' p p' x y l l' w := ⟨h.1, h.2.1, h⟩
theorem TwoFl.drew {wr : World} {b b' p p' : Nat} {x y : Fl} {l l' : FlLay} (h : TwoFl wr b b' p p' x y l l' wr) : TwoFl wr b b' p p' x y l l' wr.drew := h.grow (Below.refl _ _).drew

set_option maxHeartbeats 1000000 in
set_option maxRecDepth 100000 in
theorem eqFileS_same (A A' : Option Addr) (n c c' : Nat) (xs : List Fl) (W : World) (ha : FlI W W.heap.size A n xs) (hb : FlI W W.heap.size A' n xs) :
    Calls Try.prog 25 #[.slice A n c, .slice A' n c'] W fun e w' => e = .returned (.bool true) ∧ Below W.heap.size W w' := by
  have HA := Lib.hid ha
  have HB := Lib.hid hb
  have hn := ha.2.1
  unfold maxLen at hn
  clear ha hb
  go_enter Try.func25, Try.ntmps25
  go_wp2
  go_loopw [5] (fun i wr => ∃ k : Nat, k ≤ n ∧ i = .int .i64 k ∧ Hid (Below W.heap.size W wr)) (fun i _ => n - (intOf i).toNat)
  case atStart => exact ⟨0, Nat.zero_le _, rfl, Below.refl _ _⟩
  case round =>
    obtain ⟨k, hk, rfl, HW⟩ := hrel
    by_cases hlt : k < n
    · obtain ⟨b, off, x, l, rfl, hg, hx, h1, hv1⟩ := (HA.out.go HW.out).at_ hlt
      obtain ⟨b', off', x', l', rfl, hg', hx', h2, hv2⟩ := (HB.out.go HW.out).at_ hlt
      obtain rfl : x = x' := Option.some.inj (hx.symm.trans hx')
      have H0 := Lib.hid (show TwoFl wr b b' (off + k * 4) (off' + k * 4) x x l l' wr from ⟨h1, h2, hv1, hv2, Below.refl _ _, hg, hg'⟩)
      have b0 : (0 : Int) ≤ (k : Int) := by omega
      have b1 : (k : Int) < (n : Int) := by omega
      clear h1 h2 hv1 hv2 hx hx' hg hg'
      go_wp2_with fail
      go_region_held3 (fun w' => FlatFl wr b b' (off + k * 4) (off' + k * 4) x x l l' w')
        (first | exact H0.out.drew.flat | exact (TwoFl.grow H0.out.drew hb).flat | go_keep)
        ((go_at_call 38; have HS := H0.out.drew; have HQ := eqFile_same x l l' _ HS.2.2.1 HS.2.2.2.1; refine Calls.mono HQ ?_; clear HQ; rintro e w1 ⟨rfl, hb⟩))
      go_wp2_with fail
      go_split_ands
      have h2 : TwoFl wr b b' (off + k * 4) (off' + k * 4) x x l l' _ := ‹_›
      go_roundw
      case rel => exact ⟨k + 1, by omega, by go_num, HW.out.trans (h2.2.2.2.2.1.mono HW.out.size)⟩
      case measure => simp [intOf]; omega
    · go_wp2_with fail
      go_ret
      exact ⟨rfl, HW.out⟩
end Go.Proofs.Ytjhemdgeafglhaa

namespace Go.Proofs.Ytjhemdgeafglhaa
open Go Go.RowKit

structure Cn where
  input_ : List St
  at_ : Int
  output_ : List St
  files_ : List Fl
  trace_ : List St
/-- Where its lists lie. -/
structure CnLay where
  A0 : Option Addr
  n0 : Nat
  c0 : Nat
  h0 : n0 ≤ c0
  A2 : Option Addr
  n2 : Nat
  c2 : Nat
  h2 : n2 ≤ c2
  A3 : Option Addr
  n3 : Nat
  c3 : Nat
  h3 : n3 ≤ c3
  A4 : Option Addr
  n4 : Nat
  c4 : Nat
  h4 : n4 ≤ c4
/-- As one value. -/
abbrev Cn.ag (x : Cn) (l : CnLay) : Value := .agg #[.slice l.A0 l.n0 l.c0, .int .i64 x.at_, .slice l.A2 l.n2 l.c2, .slice l.A3 l.n3 l.c3, .slice l.A4 l.n4 l.c4]
def Cn.vs (x : Cn) (l : CnLay) : List Value := [.slice l.A0 l.n0 l.c0, .int .i64 x.at_, .slice l.A2 l.n2 l.c2, .slice l.A3 l.n3 l.c3, .slice l.A4 l.n4 l.c4]
/-- Its lists lie below B. -/
def CnV (w : World) (B : Nat) (x : Cn) (l : CnLay) : Prop := StI w B l.A0 l.n0 x.input_ ∧ StI w B l.A2 l.n2 x.output_ ∧ FlI w B l.A3 l.n3 x.files_ ∧ StI w B l.A4 l.n4 x.trace_
theorem CnV.below {w w' : World} {B : Nat} {x : Cn} {l : CnLay} (h : CnV w B x l) (hb : Below B w w') : CnV w' B x l := by
  obtain ⟨h0, h1, h2, h3⟩ := h
  exact ⟨h0.below hb, h1.below hb, h2.below hb, h3.below hb⟩
theorem CnV.more {w : World} {B B' : Nat} {x : Cn} {l : CnLay} (h : CnV w B x l) (hB : B ≤ B') : CnV w B' x l := by
  obtain ⟨h0, h1, h2, h3⟩ := h
  exact ⟨h0.more hB, h1.more hB, h2.more hB, h3.more hB⟩
theorem CnV.go {W w : World} {x : Cn} {l : CnLay} (h : CnV W W.heap.size x l) (hb : Below W.heap.size W w) : CnV w w.heap.size x l := (h.below hb).more hb.size
theorem CnV.alloc {W : World} {x : Cn} {l : CnLay} (h : CnV W W.heap.size x l) (o : Obj) : CnV (W.alloc o) (W.alloc o).heap.size x l := h.go (below_alloc W o)
/-- Its cells from p on of block b. -/
def CnAt (w : World) (b p : Nat) (x : Cn) (l : CnLay) : Prop := w.cell? ⟨b, p, none⟩ = some (.slice l.A0 l.n0 l.c0) ∧ w.cell? ⟨b, p + 1, none⟩ = some (.int .i64 x.at_) ∧ w.cell? ⟨b, p + 2, none⟩ = some (.slice l.A2 l.n2 l.c2) ∧ w.cell? ⟨b, p + 3, none⟩ = some (.slice l.A3 l.n3 l.c3) ∧ w.cell? ⟨b, p + 4, none⟩ = some (.slice l.A4 l.n4 l.c4)
theorem CnAt.below {w w' : World} {b p B : Nat} {x : Cn} {l : CnLay} (h : CnAt w b p x l) (hb : Below B w w') (hg : b < B) : CnAt w' b p x l := by
  obtain ⟨h0, h1, h2, h3, h4⟩ := h
  exact ⟨(hb.cell (p := ⟨b, p, none⟩) hg).trans h0, (hb.cell (p := ⟨b, p + 1, none⟩) hg).trans h1, (hb.cell (p := ⟨b, p + 2, none⟩) hg).trans h2, (hb.cell (p := ⟨b, p + 3, none⟩) hg).trans h3, (hb.cell (p := ⟨b, p + 4, none⟩) hg).trans h4⟩
theorem CnAt.range {w : World} {b p : Nat} {x : Cn} {l : CnLay} (h : CnAt w b p x l) : w.rangeAt b p (x.vs l) := by
  obtain ⟨h0, h1, h2, h3, h4⟩ := h
  intro j v hj
  match j, hj with
  | 0, hj => cases hj; exact h0
  | 1, hj => cases hj; exact h1
  | 2, hj => cases hj; exact h2
  | 3, hj => cases hj; exact h3
  | 4, hj => cases hj; exact h4
  | j + 5, hj => simp [Cn.vs] at hj
/-- A slice of them that lies below B, with their lists. -/
def CnI (w : World) (B : Nat) (A : Option Addr) (n : Nat) (xs : List Cn) : Prop :=
  xs.length = n ∧ n ≤ maxLen ∧ (0 < n → ∃ b off, A = some ⟨b, off, none⟩ ∧ b < B ∧ ∀ (j : Nat) (x : Cn), xs[j]? = some x → ∃ l, CnAt w b (off + j * 5) x l ∧ CnV w B x l)
theorem CnI.below {w w' : World} {B n : Nat} {A : Option Addr} {xs : List Cn} (h : CnI w B A n xs) (hb : Below B w w') : CnI w' B A n xs :=
  ⟨h.1, h.2.1, fun hn => by
    obtain ⟨b, off, e, hg, hc⟩ := h.2.2 hn
    refine ⟨b, off, e, hg, fun j x hx => ?_⟩
    obtain ⟨l, h1, h2⟩ := hc j x hx
    exact ⟨l, h1.below hb hg, h2.below hb⟩⟩
theorem CnI.more {w : World} {B B' n : Nat} {A : Option Addr} {xs : List Cn} (h : CnI w B A n xs) (hB : B ≤ B') : CnI w B' A n xs :=
  ⟨h.1, h.2.1, fun hn => by
    obtain ⟨b, off, e, hg, hc⟩ := h.2.2 hn
    refine ⟨b, off, e, by omega, fun j x hx => ?_⟩
    obtain ⟨l, h1, h2⟩ := hc j x hx
    exact ⟨l, h1, h2.more hB⟩⟩
theorem CnI.at_ {w : World} {B n k : Nat} {A : Option Addr} {xs : List Cn} (h : CnI w B A n xs) (hk : k < n) : ∃ b off x l, A = some ⟨b, off, none⟩ ∧ b < B ∧ xs[k]? = some x ∧ CnAt w b (off + k * 5) x l ∧ CnV w B x l := by
  obtain ⟨b, off, e, hg, hc⟩ := h.2.2 (by omega)
  have hl : k < xs.length := by rw [h.1]; exact hk
  obtain ⟨l, h1, h2⟩ := hc k _ (List.getElem?_eq_getElem hl)
  exact ⟨b, off, xs[k], l, e, hg, List.getElem?_eq_getElem hl, h1, h2⟩
theorem CnI.go {W w : World} {A : Option Addr} {n : Nat} {xs : List Cn} (h : CnI W W.heap.size A n xs) (hb : Below W.heap.size W w) : CnI w w.heap.size A n xs := (h.below hb).more hb.size
theorem CnI.alloc {W : World} {A : Option Addr} {n : Nat} {xs : List Cn} (h : CnI W W.heap.size A n xs) (o : Obj) : CnI (W.alloc o) (W.alloc o).heap.size A n xs := h.go (below_alloc W o)

section
variable {H : Type} {enc : TypeId × Value → H} {W : World} {base : Nat} {held : Bool}
set_option maxRecDepth 100000 in
/-- Its cells, each with its own reading. -/
theorem open_CnN {fuel : Nat} {cs : List Value} {x : DataW H × List MemPlace} (h : DataW.trod enc Try.prog W base (fun _ => true) held fuel 25 cs = some x) :
    ∃ x l, cs = Cn.vs x l ∧ CnV W W.heap.size x l := by
  obtain ⟨ys, m, hm, _, hlen, _, hf⟩ := DataW.trod_struct Try.underlying25 h
  have hlen' : cs.length = 5 := hlen.trans (by kernel_rfl)
  match cs, hlen' with
  | [c0, c1, c2, c3, c4], _ =>
    have hys : ∀ i, i < 5 → ∃ y, ys[i]? = some y := by
      intro i hi
      have : ys.length = 5 := by assumption
      exact ⟨_, List.getElem?_eq_getElem (by omega)⟩
    have f0 : DataW.trod enc Try.prog W base (fun _ => true) held m 22 [c0] = ys[0]? := field_at (i := 0) (o := 0) (k := 1) (T := 22) hf (by kernel_rfl) (by kernel_rfl)
    obtain ⟨y0, g0⟩ := hys 0 (by decide)
    rw [g0] at f0
    have f1 : DataW.trod enc Try.prog W base (fun _ => true) held m 2 [c1] = ys[1]? := field_at (i := 1) (o := 1) (k := 1) (T := 2) hf (by kernel_rfl) (by kernel_rfl)
    obtain ⟨y1, g1⟩ := hys 1 (by decide)
    rw [g1] at f1
    have f2 : DataW.trod enc Try.prog W base (fun _ => true) held m 22 [c2] = ys[2]? := field_at (i := 2) (o := 2) (k := 1) (T := 22) hf (by kernel_rfl) (by kernel_rfl)
    obtain ⟨y2, g2⟩ := hys 2 (by decide)
    rw [g2] at f2
    have f3 : DataW.trod enc Try.prog W base (fun _ => true) held m 23 [c3] = ys[3]? := field_at (i := 3) (o := 3) (k := 1) (T := 23) hf (by kernel_rfl) (by kernel_rfl)
    obtain ⟨y3, g3⟩ := hys 3 (by decide)
    rw [g3] at f3
    have f4 : DataW.trod enc Try.prog W base (fun _ => true) held m 22 [c4] = ys[4]? := field_at (i := 4) (o := 4) (k := 1) (T := 22) hf (by kernel_rfl) (by kernel_rfl)
    obtain ⟨y4, g4⟩ := hys 4 (by decide)
    rw [g4] at f4
    obtain ⟨A0, n0, q0, hc0, e0⟩ := open_slice1 Try.underlying22 f0
    rw [e0] at f0
    obtain ⟨z0, hz0⟩ := open_StF f0
    obtain ⟨z1, e1, _, _⟩ := DataW.trod_int Try.underlying2 f1
    obtain ⟨A2, n2, q2, hc2, e2⟩ := open_slice1 Try.underlying22 f2
    rw [e2] at f2
    obtain ⟨z2, hz2⟩ := open_StF f2
    obtain ⟨A3, n3, q3, hc3, e3⟩ := open_slice1 Try.underlying23 f3
    rw [e3] at f3
    obtain ⟨z3, hz3⟩ := open_FlF f3
    obtain ⟨A4, n4, q4, hc4, e4⟩ := open_slice1 Try.underlying22 f4
    rw [e4] at f4
    obtain ⟨z4, hz4⟩ := open_StF f4
    simp only [List.cons.injEq, and_true] at e0 e1 e2 e3 e4
    subst e0 e1 e2 e3 e4
    exact ⟨⟨z0, z1, z2, z3, z4⟩, ⟨A0, n0, q0, hc0, A2, n2, q2, hc2, A3, n3, q3, hc3, A4, n4, q4, hc4⟩, rfl, hz0, hz2, hz3, hz4⟩
end
set_option maxRecDepth 100000 in
/-- An argument. -/
theorem open_Cn {H : Type} {enc : TypeId × Value → H} {W : World} {v : Value} {d : DataW H} {p : List MemPlace} {r : Reach} {b0 : Nat} (hv : Value.okWide Try.prog W r b0 25 v) (h : DataW.Trod enc Try.prog W 0 (fun _ => true) true 25 v d p) :
    ∃ x l, v = Cn.ag x l ∧ CnV W W.heap.size x l := by
  obtain ⟨cs, rfl, hsz⟩ := Go.WideShapes.okWide_struct Try.underlying25 hv
  obtain ⟨fuel, hf⟩ := h
  obtain ⟨x, l, e, ho⟩ := open_CnN hf
  refine ⟨x, l, ?_, ho⟩
  have : cs.toList = Cn.vs x l := e
  rw [show cs = (Cn.vs x l).toArray from by rw [← this]]
  rfl
/-- What szConsole takes of the bound. -/
def szCn1 (x : Cn) : Nat := szSt x.input_ + szSt x.output_ + szFl x.files_ + szSt x.trace_

set_option maxHeartbeats 2000000 in
set_option maxRecDepth 100000 in
theorem szConsole_any (x : Cn) (l : CnLay) (L : Int) (W : World) (ho : CnV W W.heap.size x l) (hLL : 0 ≤ L) (hL : L ≤ 1048576) :
    Calls Try.prog 5 #[x.ag l, .int .i64 L] W (SzL (szCn1 x) L W) := by
  obtain ⟨s, hs⟩ : ∃ s, szCn1 x = s := ⟨_, rfl⟩
  rw [hs]
  unfold szCn1 at hs
  obtain ⟨x0, x1, x2, x3, x4⟩ := x
  obtain ⟨A0, n0, c0, h0, A2, n2, c2, h2, A3, n3, c3, h3, A4, n4, c4, h4⟩ := l
  obtain ⟨k0, k2, k3, k4⟩ := ho
  try unfold CnV at k0 k2 k3 k4
  dsimp only at hs k0 k2 k3 k4
  have HS := Lib.hid hs
  have HL0 := Lib.hid hLL
  have HL1 := Lib.hid hL
  have HK0 := Lib.hid k0
  have HK2 := Lib.hid k2
  have HK3 := Lib.hid k3
  have HK4 := Lib.hid k4
  have HC := Lib.hid (fun X (e : X = W.alloc (.cells #[.slice A0 n0 c0, .int .i64 x1, .slice A2 n2 c2, .slice A3 n3 c3, .slice A4 n4 c4] 25)) => (show RW 25 X W.heap.size #[.slice A0 n0 c0, .int .i64 x1, .slice A2 n2 c2, .slice A3 n3 c3, .slice A4 n4 c4] ∧ Below W.heap.size W X ∧ W.heap.size < X.heap.size from by rw [e]; exact ⟨RW.new _ _ _, below_alloc _ _, lt_alloc _ _⟩))
  clear hs k0 k2 k3 k4
  show Calls Try.prog 5 #[.agg #[.slice A0 n0 c0, .int .i64 x1, .slice A2 n2 c2, .slice A3 n3 c3, .slice A4 n4 c4], .int .i64 L] W _
  by_cases cc0 : (szSt x0 : Int) ≤ L
  · have C0 := Lib.hid cc0
    clear cc0
    by_cases cc1 : (szSt x0 : Int) + (szSt x2 : Int) ≤ L
    · have C1 := Lib.hid cc1
      clear cc1
      by_cases cc2 : (szSt x0 : Int) + (szSt x2 : Int) + (szFl x3 : Int) ≤ L
      · have C2 := Lib.hid cc2
        clear cc2
        by_cases cc3 : (szSt x0 : Int) + (szSt x2 : Int) + (szFl x3 : Int) + (szSt x4 : Int) ≤ L
        · have C3 := Lib.hid cc3
          clear cc3
          go_enter Try.func5, Try.ntmps5
          go_wp2_with (go_at_call 15; obtain ⟨g0, g1, g2⟩ := HC.out _ rfl; have HQ := szStringS_any A0 n0 c0 x0 (L) _ (HK0.out.go g1) HL0.out HL1.out; refine Calls.mono HQ ?_; clear HQ; intro e w1 h; obtain ⟨z0, rfl, hz0, l0, u0, hb⟩ := h.fits (by have := C0.out; omega) HL1.out; have Z0 := Lib.hid hz0; have d0 : decide (z0 < 0) = false := (by simp; omega); have HR1 := Lib.hid (g0.below hb g2); have HB1 := Lib.hid (g1.trans (hb.mono g1.size)); have HG1 := Lib.hid (Nat.lt_of_lt_of_le g2 hb.size); have q02 : w1.cell? ⟨W.heap.size, 2, none⟩ = some (.slice A2 n2 c2) := HR1.out.cell 2; clear hb hz0 g0 g1 g2 HK0)
          go_wp2_with (go_at_call 15; have HQ := szStringS_any A2 n2 c2 x2 (z0) _ (HK2.out.go HB1.out) (by have := C0.out; have := Z0.out; have := HL0.out; omega) (by have := C0.out; have := Z0.out; have := HL1.out; omega); refine Calls.mono HQ ?_; clear HQ; intro e w2 h; obtain ⟨z1, rfl, hz1, l1, u1, hb⟩ := h.fits (by have := C0.out; have := C1.out; have := Z0.out; omega) (by have := C0.out; have := Z0.out; have := HL1.out; omega); have Z1 := Lib.hid hz1; have d1 : decide (z1 < 0) = false := (by simp; omega); have HR2 := Lib.hid (HR1.out.below hb HG1.out); have HB2 := Lib.hid (HB1.out.trans (hb.mono HB1.out.size)); have HG2 := Lib.hid (Nat.lt_of_lt_of_le HG1.out hb.size); have q13 : w2.cell? ⟨W.heap.size, 3, none⟩ = some (.slice A3 n3 c3) := HR2.out.cell 3; clear hb hz1  HK2)
          go_wp2_with (go_at_call 16; have HQ := szFileS_any A3 n3 c3 x3 (z1) _ (HK3.out.go HB2.out) (by have := C0.out; have := C1.out; have := Z0.out; have := Z1.out; have := HL0.out; omega) (by have := C0.out; have := C1.out; have := Z0.out; have := Z1.out; have := HL1.out; omega); refine Calls.mono HQ ?_; clear HQ; intro e w3 h; obtain ⟨z2, rfl, hz2, l2, u2, hb⟩ := h.fits (by have := C0.out; have := C1.out; have := C2.out; have := Z0.out; have := Z1.out; omega) (by have := C0.out; have := C1.out; have := Z0.out; have := Z1.out; have := HL1.out; omega); have Z2 := Lib.hid hz2; have d2 : decide (z2 < 0) = false := (by simp; omega); have HR3 := Lib.hid (HR2.out.below hb HG2.out); have HB3 := Lib.hid (HB2.out.trans (hb.mono HB2.out.size)); have HG3 := Lib.hid (Nat.lt_of_lt_of_le HG2.out hb.size); have q24 : w3.cell? ⟨W.heap.size, 4, none⟩ = some (.slice A4 n4 c4) := HR3.out.cell 4; clear hb hz2  HK3)
          go_wp2_with (go_at_call 15; have HQ := szStringS_any A4 n4 c4 x4 (z2) _ (HK4.out.go HB3.out) (by have := C0.out; have := C1.out; have := C2.out; have := Z0.out; have := Z1.out; have := Z2.out; have := HL0.out; omega) (by have := C0.out; have := C1.out; have := C2.out; have := Z0.out; have := Z1.out; have := Z2.out; have := HL1.out; omega); refine Calls.mono HQ ?_; clear HQ; intro e w4 h; obtain ⟨z3, rfl, hz3, l3, u3, hb⟩ := h.fits (by have := C0.out; have := C1.out; have := C2.out; have := C3.out; have := Z0.out; have := Z1.out; have := Z2.out; omega) (by have := C0.out; have := C1.out; have := C2.out; have := Z0.out; have := Z1.out; have := Z2.out; have := HL1.out; omega); have Z3 := Lib.hid hz3; have d3 : decide (z3 < 0) = false := (by simp; omega); have HR4 := Lib.hid (HR3.out.below hb HG3.out); have HB4 := Lib.hid (HB3.out.trans (hb.mono HB3.out.size)); have HG4 := Lib.hid (Nat.lt_of_lt_of_le HG3.out hb.size); clear hb hz3  HK4)
          go_ret
          refine ⟨.inl ⟨by have := C0.out; have := C1.out; have := C2.out; have := C3.out; have := Z0.out; have := Z1.out; have := Z2.out; have := Z3.out; have := HS.out; omega, ?_⟩, HB4.out⟩
          have hx : z3 = L - (s : Int) := by have := C0.out; have := C1.out; have := C2.out; have := C3.out; have := Z0.out; have := Z1.out; have := Z2.out; have := Z3.out; have := HS.out; omega
          rw [← hx]
          rfl
        · have C3 := Lib.hid cc3
          clear cc3
          go_enter Try.func5, Try.ntmps5
          go_wp2_with (go_at_call 15; obtain ⟨g0, g1, g2⟩ := HC.out _ rfl; have HQ := szStringS_any A0 n0 c0 x0 (L) _ (HK0.out.go g1) HL0.out HL1.out; refine Calls.mono HQ ?_; clear HQ; intro e w1 h; obtain ⟨z0, rfl, hz0, l0, u0, hb⟩ := h.fits (by have := C0.out; omega) HL1.out; have Z0 := Lib.hid hz0; have d0 : decide (z0 < 0) = false := (by simp; omega); have HR1 := Lib.hid (g0.below hb g2); have HB1 := Lib.hid (g1.trans (hb.mono g1.size)); have HG1 := Lib.hid (Nat.lt_of_lt_of_le g2 hb.size); have q02 : w1.cell? ⟨W.heap.size, 2, none⟩ = some (.slice A2 n2 c2) := HR1.out.cell 2; clear hb hz0 g0 g1 g2 HK0)
          go_wp2_with (go_at_call 15; have HQ := szStringS_any A2 n2 c2 x2 (z0) _ (HK2.out.go HB1.out) (by have := C0.out; have := Z0.out; have := HL0.out; omega) (by have := C0.out; have := Z0.out; have := HL1.out; omega); refine Calls.mono HQ ?_; clear HQ; intro e w2 h; obtain ⟨z1, rfl, hz1, l1, u1, hb⟩ := h.fits (by have := C0.out; have := C1.out; have := Z0.out; omega) (by have := C0.out; have := Z0.out; have := HL1.out; omega); have Z1 := Lib.hid hz1; have d1 : decide (z1 < 0) = false := (by simp; omega); have HR2 := Lib.hid (HR1.out.below hb HG1.out); have HB2 := Lib.hid (HB1.out.trans (hb.mono HB1.out.size)); have HG2 := Lib.hid (Nat.lt_of_lt_of_le HG1.out hb.size); have q13 : w2.cell? ⟨W.heap.size, 3, none⟩ = some (.slice A3 n3 c3) := HR2.out.cell 3; clear hb hz1  HK2)
          go_wp2_with (go_at_call 16; have HQ := szFileS_any A3 n3 c3 x3 (z1) _ (HK3.out.go HB2.out) (by have := C0.out; have := C1.out; have := Z0.out; have := Z1.out; have := HL0.out; omega) (by have := C0.out; have := C1.out; have := Z0.out; have := Z1.out; have := HL1.out; omega); refine Calls.mono HQ ?_; clear HQ; intro e w3 h; obtain ⟨z2, rfl, hz2, l2, u2, hb⟩ := h.fits (by have := C0.out; have := C1.out; have := C2.out; have := Z0.out; have := Z1.out; omega) (by have := C0.out; have := C1.out; have := Z0.out; have := Z1.out; have := HL1.out; omega); have Z2 := Lib.hid hz2; have d2 : decide (z2 < 0) = false := (by simp; omega); have HR3 := Lib.hid (HR2.out.below hb HG2.out); have HB3 := Lib.hid (HB2.out.trans (hb.mono HB2.out.size)); have HG3 := Lib.hid (Nat.lt_of_lt_of_le HG2.out hb.size); have q24 : w3.cell? ⟨W.heap.size, 4, none⟩ = some (.slice A4 n4 c4) := HR3.out.cell 4; clear hb hz2  HK3)
          go_wp2_with (go_at_call 15; have HQ := szStringS_any A4 n4 c4 x4 (z2) _ (HK4.out.go HB3.out) (by have := C0.out; have := C1.out; have := C2.out; have := Z0.out; have := Z1.out; have := Z2.out; have := HL0.out; omega) (by have := C0.out; have := C1.out; have := C2.out; have := Z0.out; have := Z1.out; have := Z2.out; have := HL1.out; omega); refine Calls.mono HQ ?_; clear HQ; intro e w4 h; obtain ⟨rfl, hb⟩ := h.long (by have := C0.out; have := C1.out; have := C2.out; have := C3.out; have := Z0.out; have := Z1.out; have := Z2.out; omega); have HR4 := Lib.hid (HR3.out.below hb HG3.out); have HB4 := Lib.hid (HB3.out.trans (hb.mono HB3.out.size)); have HG4 := Lib.hid (Nat.lt_of_lt_of_le HG3.out hb.size); clear hb  HK4)
          go_ret
          exact ⟨.inr ⟨by have := C0.out; have := C1.out; have := C2.out; have := C3.out; have := Z0.out; have := Z1.out; have := Z2.out; have := HS.out; omega, rfl⟩, HB4.out⟩
      · have C2 := Lib.hid cc2
        clear cc2
        go_enter Try.func5, Try.ntmps5
        go_wp2_with (go_at_call 15; obtain ⟨g0, g1, g2⟩ := HC.out _ rfl; have HQ := szStringS_any A0 n0 c0 x0 (L) _ (HK0.out.go g1) HL0.out HL1.out; refine Calls.mono HQ ?_; clear HQ; intro e w1 h; obtain ⟨z0, rfl, hz0, l0, u0, hb⟩ := h.fits (by have := C0.out; omega) HL1.out; have Z0 := Lib.hid hz0; have d0 : decide (z0 < 0) = false := (by simp; omega); have HR1 := Lib.hid (g0.below hb g2); have HB1 := Lib.hid (g1.trans (hb.mono g1.size)); have HG1 := Lib.hid (Nat.lt_of_lt_of_le g2 hb.size); have q02 : w1.cell? ⟨W.heap.size, 2, none⟩ = some (.slice A2 n2 c2) := HR1.out.cell 2; clear hb hz0 g0 g1 g2 HK0)
        go_wp2_with (go_at_call 15; have HQ := szStringS_any A2 n2 c2 x2 (z0) _ (HK2.out.go HB1.out) (by have := C0.out; have := Z0.out; have := HL0.out; omega) (by have := C0.out; have := Z0.out; have := HL1.out; omega); refine Calls.mono HQ ?_; clear HQ; intro e w2 h; obtain ⟨z1, rfl, hz1, l1, u1, hb⟩ := h.fits (by have := C0.out; have := C1.out; have := Z0.out; omega) (by have := C0.out; have := Z0.out; have := HL1.out; omega); have Z1 := Lib.hid hz1; have d1 : decide (z1 < 0) = false := (by simp; omega); have HR2 := Lib.hid (HR1.out.below hb HG1.out); have HB2 := Lib.hid (HB1.out.trans (hb.mono HB1.out.size)); have HG2 := Lib.hid (Nat.lt_of_lt_of_le HG1.out hb.size); have q13 : w2.cell? ⟨W.heap.size, 3, none⟩ = some (.slice A3 n3 c3) := HR2.out.cell 3; clear hb hz1  HK2)
        go_wp2_with (go_at_call 16; have HQ := szFileS_any A3 n3 c3 x3 (z1) _ (HK3.out.go HB2.out) (by have := C0.out; have := C1.out; have := Z0.out; have := Z1.out; have := HL0.out; omega) (by have := C0.out; have := C1.out; have := Z0.out; have := Z1.out; have := HL1.out; omega); refine Calls.mono HQ ?_; clear HQ; intro e w3 h; obtain ⟨rfl, hb⟩ := h.long (by have := C0.out; have := C1.out; have := C2.out; have := Z0.out; have := Z1.out; omega); have HR3 := Lib.hid (HR2.out.below hb HG2.out); have HB3 := Lib.hid (HB2.out.trans (hb.mono HB2.out.size)); have HG3 := Lib.hid (Nat.lt_of_lt_of_le HG2.out hb.size); clear hb  HK3)
        go_ret
        exact ⟨.inr ⟨by have := C0.out; have := C1.out; have := C2.out; have := Z0.out; have := Z1.out; have := HS.out; omega, rfl⟩, HB3.out⟩
    · have C1 := Lib.hid cc1
      clear cc1
      go_enter Try.func5, Try.ntmps5
      go_wp2_with (go_at_call 15; obtain ⟨g0, g1, g2⟩ := HC.out _ rfl; have HQ := szStringS_any A0 n0 c0 x0 (L) _ (HK0.out.go g1) HL0.out HL1.out; refine Calls.mono HQ ?_; clear HQ; intro e w1 h; obtain ⟨z0, rfl, hz0, l0, u0, hb⟩ := h.fits (by have := C0.out; omega) HL1.out; have Z0 := Lib.hid hz0; have d0 : decide (z0 < 0) = false := (by simp; omega); have HR1 := Lib.hid (g0.below hb g2); have HB1 := Lib.hid (g1.trans (hb.mono g1.size)); have HG1 := Lib.hid (Nat.lt_of_lt_of_le g2 hb.size); have q02 : w1.cell? ⟨W.heap.size, 2, none⟩ = some (.slice A2 n2 c2) := HR1.out.cell 2; clear hb hz0 g0 g1 g2 HK0)
      go_wp2_with (go_at_call 15; have HQ := szStringS_any A2 n2 c2 x2 (z0) _ (HK2.out.go HB1.out) (by have := C0.out; have := Z0.out; have := HL0.out; omega) (by have := C0.out; have := Z0.out; have := HL1.out; omega); refine Calls.mono HQ ?_; clear HQ; intro e w2 h; obtain ⟨rfl, hb⟩ := h.long (by have := C0.out; have := C1.out; have := Z0.out; omega); have HR2 := Lib.hid (HR1.out.below hb HG1.out); have HB2 := Lib.hid (HB1.out.trans (hb.mono HB1.out.size)); have HG2 := Lib.hid (Nat.lt_of_lt_of_le HG1.out hb.size); clear hb  HK2)
      go_ret
      exact ⟨.inr ⟨by have := C0.out; have := C1.out; have := Z0.out; have := HS.out; omega, rfl⟩, HB2.out⟩
  · have C0 := Lib.hid cc0
    clear cc0
    go_enter Try.func5, Try.ntmps5
    go_wp2_with (go_at_call 15; obtain ⟨g0, g1, g2⟩ := HC.out _ rfl; have HQ := szStringS_any A0 n0 c0 x0 (L) _ (HK0.out.go g1) HL0.out HL1.out; refine Calls.mono HQ ?_; clear HQ; intro e w1 h; obtain ⟨rfl, hb⟩ := h.long (by have := C0.out; omega); have HR1 := Lib.hid (g0.below hb g2); have HB1 := Lib.hid (g1.trans (hb.mono g1.size)); have HG1 := Lib.hid (Nat.lt_of_lt_of_le g2 hb.size); clear hb g0 g1 g2 HK0)
    go_ret
    exact ⟨.inr ⟨by have := C0.out; have := HS.out; omega, rfl⟩, HB1.out⟩

/-- Those of the first k. -/
def sumCn (xs : List Cn) : Nat → Nat
  | 0 => 0
  | k + 1 => sumCn xs k + ((xs[k]?.map szCn1).getD 0)
theorem sumCn_next {xs : List Cn} {k : Nat} {x : Cn} (h : xs[k]? = some x) : sumCn xs (k + 1) = sumCn xs k + szCn1 x := by
  rw [sumCn, h]
  rfl
theorem sumCn_mono {xs : List Cn} {j : Nat} : ∀ {k : Nat}, j ≤ k → sumCn xs j ≤ sumCn xs k
  | 0, h => by obtain rfl : j = 0 := by omega
               exact Nat.le_refl _
  | k + 1, h => by
    by_cases e : j = k + 1
    · rw [e]; exact Nat.le_refl _
    · have := sumCn_mono (xs := xs) (show j ≤ k by omega)
      rw [sumCn]
      omega
def szCn (xs : List Cn) : Nat := xs.length + sumCn xs xs.length

/-- No list is too long. -/
def CnSmall (x : Cn) : Prop := x.input_.length ≤ 1048576 ∧ x.output_.length ≤ 1048576 ∧ ((∀ (j : Nat) (y : Fl), x.files_[j]? = some y → FlSmall y) ∧ x.files_.length ≤ 1048576) ∧ x.trace_.length ≤ 1048576
theorem small_Cn1 {x : Cn} (h : (szCn1 x : Int) ≤ 1048576) : CnSmall x := by
  unfold szCn1 at h
  unfold CnSmall
  exact ⟨(by unfold szSt at h; omega), (by unfold szSt at h; omega), (small_Fl (by omega)), (by unfold szSt at h; omega)⟩
theorem small_Cn {xs : List Cn} (h : (szCn xs : Int) ≤ 1048576) : (∀ (j : Nat) (x : Cn), xs[j]? = some x → CnSmall x) ∧ xs.length ≤ 1048576 := by
  unfold szCn at h
  refine ⟨fun j x hx => small_Cn1 ?_, by omega⟩
  have hl := (List.getElem?_eq_some_iff.1 hx).1
  have h1 := sumCn_mono (xs := xs) (j := j + 1) (k := xs.length) (by omega)
  rw [sumCn_next hx] at h1
  omega
end Go.Proofs.Ytjhemdgeafglhaa
