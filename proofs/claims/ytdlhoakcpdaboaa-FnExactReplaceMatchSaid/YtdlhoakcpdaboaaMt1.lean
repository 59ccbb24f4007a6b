/- Match: as plain data and in memory; szMatch, szMatchS of the laws. No condition. -/
import Derived.Test.YtdlhoakcpdaboaaCpsEq
namespace Go.Proofs.Ytdlhoakcpdaboaa
open Go Go.RowKit

structure Mt where
  start_ : Int
  end_ : Int
  captures_ : List Cp
/-- Where its lists lie. -/
structure MtLay where
  A2 : Option Addr
  n2 : Nat
  c2 : Nat
  h2 : n2 ≤ c2
/-- As one value. -/
abbrev Mt.ag (x : Mt) (l : MtLay) : Value := .agg #[.int .i64 x.start_, .int .i64 x.end_, .slice l.A2 l.n2 l.c2]
def Mt.vs (x : Mt) (l : MtLay) : List Value := [.int .i64 x.start_, .int .i64 x.end_, .slice l.A2 l.n2 l.c2]
/-- Its lists lie below B. -/
def MtV (w : World) (B : Nat) (x : Mt) (l : MtLay) : Prop := CpI w B l.A2 l.n2 x.captures_
theorem MtV.below {w w' : World} {B : Nat} {x : Mt} {l : MtLay} (h : MtV w B x l) (hb : Below B w w') : MtV w' B x l := by
  have h0 : CpI w B l.A2 l.n2 x.captures_ := h
  exact h0.below hb
theorem MtV.more {w : World} {B B' : Nat} {x : Mt} {l : MtLay} (h : MtV w B x l) (hB : B ≤ B') : MtV w B' x l := by
  have h0 : CpI w B l.A2 l.n2 x.captures_ := h
  exact h0.more hB
theorem MtV.go {W w : World} {x : Mt} {l : MtLay} (h : MtV W W.heap.size x l) (hb : Below W.heap.size W w) : MtV w w.heap.size x l := (h.below hb).more hb.size
theorem MtV.alloc {W : World} {x : Mt} {l : MtLay} (h : MtV W W.heap.size x l) (o : Obj) : MtV (W.alloc o) (W.alloc o).heap.size x l := h.go (below_alloc W o)
/-- Its cells from p on of block b. -/
def MtAt (w : World) (b p : Nat) (x : Mt) (l : MtLay) : Prop := w.cell? ⟨b, p, none⟩ = some (.int .i64 x.start_) ∧ w.cell? ⟨b, p + 1, none⟩ = some (.int .i64 x.end_) ∧ w.cell? ⟨b, p + 2, none⟩ = some (.slice l.A2 l.n2 l.c2)
theorem MtAt.below {w w' : World} {b p B : Nat} {x : Mt} {l : MtLay} (h : MtAt w b p x l) (hb : Below B w w') (hg : b < B) : MtAt w' b p x l := by
  obtain ⟨h0, h1, h2⟩ := h
  exact ⟨(hb.cell (p := ⟨b, p, none⟩) hg).trans h0, (hb.cell (p := ⟨b, p + 1, none⟩) hg).trans h1, (hb.cell (p := ⟨b, p + 2, none⟩) hg).trans h2⟩
theorem MtAt.range {w : World} {b p : Nat} {x : Mt} {l : MtLay} (h : MtAt w b p x l) : w.rangeAt b p (x.vs l) := by
  obtain ⟨h0, h1, h2⟩ := h
  intro j v hj
  match j, hj with
  | 0, hj => cases hj; exact h0
  | 1, hj => cases hj; exact h1
  | 2, hj => cases hj; exact h2
  | j + 3, hj => simp [Mt.vs] at hj
/-- A slice of them that lies below B, with their lists. -/
def MtI (w : World) (B : Nat) (A : Option Addr) (n : Nat) (xs : List Mt) : Prop :=
  xs.length = n ∧ n ≤ maxLen ∧ (0 < n → ∃ b off, A = some ⟨b, off, none⟩ ∧ b < B ∧ ∀ (j : Nat) (x : Mt), xs[j]? = some x → ∃ l, MtAt w b (off + j * 3) x l ∧ MtV w B x l)
theorem MtI.below {w w' : World} {B n : Nat} {A : Option Addr} {xs : List Mt} (h : MtI w B A n xs) (hb : Below B w w') : MtI w' B A n xs :=
  ⟨h.1, h.2.1, fun hn => by
    obtain ⟨b, off, e, hg, hc⟩ := h.2.2 hn
    refine ⟨b, off, e, hg, fun j x hx => ?_⟩
    obtain ⟨l, h1, h2⟩ := hc j x hx
    exact ⟨l, h1.below hb hg, h2.below hb⟩⟩
theorem MtI.more {w : World} {B B' n : Nat} {A : Option Addr} {xs : List Mt} (h : MtI w B A n xs) (hB : B ≤ B') : MtI w B' A n xs :=
  ⟨h.1, h.2.1, fun hn => by
    obtain ⟨b, off, e, hg, hc⟩ := h.2.2 hn
    refine ⟨b, off, e, by omega, fun j x hx => ?_⟩
    obtain ⟨l, h1, h2⟩ := hc j x hx
    exact ⟨l, h1, h2.more hB⟩⟩
theorem MtI.at_ {w : World} {B n k : Nat} {A : Option Addr} {xs : List Mt} (h : MtI w B A n xs) (hk : k < n) : ∃ b off x l, A = some ⟨b, off, none⟩ ∧ b < B ∧ xs[k]? = some x ∧ MtAt w b (off + k * 3) x l ∧ MtV w B x l := by
  obtain ⟨b, off, e, hg, hc⟩ := h.2.2 (by omega)
  have hl : k < xs.length := by rw [h.1]; exact hk
  obtain ⟨l, h1, h2⟩ := hc k _ (List.getElem?_eq_getElem hl)
  exact ⟨b, off, xs[k], l, e, hg, List.getElem?_eq_getElem hl, h1, h2⟩
theorem MtI.go {W w : World} {A : Option Addr} {n : Nat} {xs : List Mt} (h : MtI W W.heap.size A n xs) (hb : Below W.heap.size W w) : MtI w w.heap.size A n xs := (h.below hb).more hb.size
theorem MtI.alloc {W : World} {A : Option Addr} {n : Nat} {xs : List Mt} (h : MtI W W.heap.size A n xs) (o : Obj) : MtI (W.alloc o) (W.alloc o).heap.size A n xs := h.go (below_alloc W o)

section
variable {H : Type} {enc : TypeId × Value → H} {W : World} {base : Nat} {held : Bool}
set_option maxRecDepth 100000 in
/-- Its cells, each with its own reading. -/
theorem open_MtN {fuel : Nat} {cs : List Value} {x : DataW H × List MemPlace} (h : DataW.trod enc Try.prog W base (fun _ => true) held fuel 24 cs = some x) :
    ∃ x l, cs = Mt.vs x l ∧ MtV W W.heap.size x l := by
  obtain ⟨ys, m, hm, _, hlen, _, hf⟩ := DataW.trod_struct Try.underlying24 h
  have hlen' : cs.length = 3 := hlen.trans (by kernel_rfl)
  match cs, hlen' with
  | [c0, c1, c2], _ =>
    have hys : ∀ i, i < 3 → ∃ y, ys[i]? = some y := by
      intro i hi
      have : ys.length = 3 := by assumption
      exact ⟨_, List.getElem?_eq_getElem (by omega)⟩
    have f0 : DataW.trod enc Try.prog W base (fun _ => true) held m 2 [c0] = ys[0]? := field_at (i := 0) (o := 0) (k := 1) (T := 2) hf (by kernel_rfl) (by kernel_rfl)
    obtain ⟨y0, g0⟩ := hys 0 (by decide)
    rw [g0] at f0
    have f1 : DataW.trod enc Try.prog W base (fun _ => true) held m 2 [c1] = ys[1]? := field_at (i := 1) (o := 1) (k := 1) (T := 2) hf (by kernel_rfl) (by kernel_rfl)
    obtain ⟨y1, g1⟩ := hys 1 (by decide)
    rw [g1] at f1
    have f2 : DataW.trod enc Try.prog W base (fun _ => true) held m 22 [c2] = ys[2]? := field_at (i := 2) (o := 2) (k := 1) (T := 22) hf (by kernel_rfl) (by kernel_rfl)
    obtain ⟨y2, g2⟩ := hys 2 (by decide)
    rw [g2] at f2
    obtain ⟨z0, e0, _, _⟩ := DataW.trod_int Try.underlying2 f0
    obtain ⟨z1, e1, _, _⟩ := DataW.trod_int Try.underlying2 f1
    obtain ⟨A2, n2, q2, hc2, e2⟩ := open_slice1 Try.underlying22 f2
    rw [e2] at f2
    obtain ⟨z2, hz2⟩ := open_CpF f2
    simp only [List.cons.injEq, and_true] at e0 e1 e2
    subst e0 e1 e2
    exact ⟨⟨z0, z1, z2⟩, ⟨A2, n2, q2, hc2⟩, rfl, hz2⟩
end
set_option maxRecDepth 100000 in
/-- An argument. -/
theorem open_Mt {H : Type} {enc : TypeId × Value → H} {W : World} {v : Value} {d : DataW H} {p : List MemPlace} {r : Reach} {b0 : Nat} (hv : Value.okWide Try.prog W r b0 24 v) (h : DataW.Trod enc Try.prog W 0 (fun _ => true) true 24 v d p) :
    ∃ x l, v = Mt.ag x l ∧ MtV W W.heap.size x l := by
  obtain ⟨cs, rfl, hsz⟩ := Go.WideShapes.okWide_struct Try.underlying24 hv
  obtain ⟨fuel, hf⟩ := h
  obtain ⟨x, l, e, ho⟩ := open_MtN hf
  refine ⟨x, l, ?_, ho⟩
  have : cs.toList = Mt.vs x l := e
  rw [show cs = (Mt.vs x l).toArray from by rw [← this]]
  rfl
/-- What szMatch takes of the bound. -/
def szMt1 (x : Mt) : Nat := szCp x.captures_

set_option maxHeartbeats 2000000 in
set_option maxRecDepth 100000 in
theorem szMatch_any (x : Mt) (l : MtLay) (L : Int) (W : World) (ho : MtV W W.heap.size x l) (h0 : 0 ≤ L) (hL : L ≤ 1048576) :
    Calls Try.prog 10 #[x.ag l, .int .i64 L] W (SzL (szMt1 x) L W) := by
  obtain ⟨s, hs⟩ : ∃ s, szMt1 x = s := ⟨_, rfl⟩
  rw [hs]
  unfold szMt1 at hs
  obtain ⟨x0, x1, x2⟩ := x
  obtain ⟨A2, n2, c2, h2⟩ := l
  have k2 := ho
  try unfold MtV at k2
  dsimp only at hs k2
  have HS := Lib.hid hs
  have HL0 := Lib.hid h0
  have HL1 := Lib.hid hL
  have HK2 := Lib.hid k2
  have HC := Lib.hid (fun X (e : X = W.alloc (.cells #[.int .i64 x0, .int .i64 x1, .slice A2 n2 c2] 24)) => (show RW 24 X W.heap.size #[.int .i64 x0, .int .i64 x1, .slice A2 n2 c2] ∧ Below W.heap.size W X ∧ W.heap.size < X.heap.size from by rw [e]; exact ⟨RW.new _ _ _, below_alloc _ _, lt_alloc _ _⟩))
  clear hs k2
  show Calls Try.prog 10 #[.agg #[.int .i64 x0, .int .i64 x1, .slice A2 n2 c2], .int .i64 L] W _
  by_cases c0 : (szCp x2 : Int) ≤ L
  · have C0 := Lib.hid c0
    clear c0
    go_enter Try.func10, Try.ntmps10
    go_wp2_with (go_at_call 32; obtain ⟨g0, g1, g2⟩ := HC.out _ rfl; have HQ := szCaptureS_any A2 n2 c2 x2 (L) _ (HK2.out.go g1) HL0.out HL1.out; refine Calls.mono HQ ?_; clear HQ; intro e w1 h; obtain ⟨z0, rfl, hz0, l0, u0, hb⟩ := h.fits (by have := C0.out; omega) HL1.out; have Z0 := Lib.hid hz0; have d0 : decide (z0 < 0) = false := (by simp; omega); have HR1 := Lib.hid (g0.below hb g2); have HB1 := Lib.hid (g1.trans (hb.mono g1.size)); have HG1 := Lib.hid (Nat.lt_of_lt_of_le g2 hb.size); clear hb hz0 g0 g1 g2 HK2)
    go_ret
    refine ⟨.inl ⟨by have := C0.out; have := Z0.out; have := HS.out; omega, ?_⟩, HB1.out⟩
    have hx : z0 = L - (s : Int) := by have := C0.out; have := Z0.out; have := HS.out; omega
    rw [← hx]
    rfl
  · have C0 := Lib.hid c0
    clear c0
    go_enter Try.func10, Try.ntmps10
    go_wp2_with (go_at_call 32; obtain ⟨g0, g1, g2⟩ := HC.out _ rfl; have HQ := szCaptureS_any A2 n2 c2 x2 (L) _ (HK2.out.go g1) HL0.out HL1.out; refine Calls.mono HQ ?_; clear HQ; intro e w1 h; obtain ⟨rfl, hb⟩ := h.long (by have := C0.out; omega); have HR1 := Lib.hid (g0.below hb g2); have HB1 := Lib.hid (g1.trans (hb.mono g1.size)); have HG1 := Lib.hid (Nat.lt_of_lt_of_le g2 hb.size); clear hb g0 g1 g2 HK2)
    go_ret
    exact ⟨.inr ⟨by have := C0.out; have := HS.out; omega, rfl⟩, HB1.out⟩

/-- Those of the first k. -/
def sumMt (xs : List Mt) : Nat → Nat
  | 0 => 0
  | k + 1 => sumMt xs k + ((xs[k]?.map szMt1).getD 0)
theorem sumMt_next {xs : List Mt} {k : Nat} {x : Mt} (h : xs[k]? = some x) : sumMt xs (k + 1) = sumMt xs k + szMt1 x := by
  rw [sumMt, h]
  rfl
theorem sumMt_mono {xs : List Mt} {j : Nat} : ∀ {k : Nat}, j ≤ k → sumMt xs j ≤ sumMt xs k
  | 0, h => by obtain rfl : j = 0 := by omega
               exact Nat.le_refl _
  | k + 1, h => by
    by_cases e : j = k + 1
    · rw [e]; exact Nat.le_refl _
    · have := sumMt_mono (xs := xs) (show j ≤ k by omega)
      rw [sumMt]
      omega
def szMt (xs : List Mt) : Nat := xs.length + sumMt xs xs.length

/-- No list is too long. -/
def MtSmall (x : Mt) : Prop := x.captures_.length ≤ 1048576
theorem small_Mt1 {x : Mt} (h : (szMt1 x : Int) ≤ 1048576) : MtSmall x := by
  unfold szMt1 szCp at h
  unfold MtSmall
  omega
theorem small_Mt {xs : List Mt} (h : (szMt xs : Int) ≤ 1048576) : (∀ (j : Nat) (x : Mt), xs[j]? = some x → MtSmall x) ∧ xs.length ≤ 1048576 := by
  unfold szMt at h
  refine ⟨fun j x hx => small_Mt1 ?_, by omega⟩
  have hl := (List.getElem?_eq_some_iff.1 hx).1
  have h1 := sumMt_mono (xs := xs) (j := j + 1) (k := xs.length) (by omega)
  rw [sumMt_next hx] at h1
  omega
end Go.Proofs.Ytdlhoakcpdaboaa
