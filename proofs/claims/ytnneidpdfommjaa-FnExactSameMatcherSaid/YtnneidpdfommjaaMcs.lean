/- Slices of MatchChoice: what came in or lies below B; szMatchChoiceS, toMatchChoiceS of the laws. No condition. -/
import Derived.Test.YtnneidpdfommjaaRw
namespace Go.Proofs.Ytnneidpdfommjaa
open Go Go.RowKit

/-- A MatchChoice. -/
structure Mc where
  kind_ : Int
  pC_ : Int
  cursor_ : Int
  top_ : Int
  conds_ : Int
  last_ : Int
/-- Its cells. -/
def Mc.vs (x : Mc) : List Value := [.int .i64 x.kind_, .int .i64 x.pC_, .int .i64 x.cursor_, .int .i64 x.top_, .int .i64 x.conds_, .int .i64 x.last_]
/-- As one value. -/
abbrev Mc.ag (x : Mc) : Value := .agg #[.int .i64 x.kind_, .int .i64 x.pC_, .int .i64 x.cursor_, .int .i64 x.top_, .int .i64 x.conds_, .int .i64 x.last_]
/-- The cells from o on of block b. -/
def McAt (w : World) (b o : Nat) (x : Mc) : Prop :=
  w.cell? ⟨b, o, none⟩ = some (.int .i64 x.kind_) ∧ w.cell? ⟨b, o + 1, none⟩ = some (.int .i64 x.pC_) ∧ w.cell? ⟨b, o + 2, none⟩ = some (.int .i64 x.cursor_) ∧ w.cell? ⟨b, o + 3, none⟩ = some (.int .i64 x.top_) ∧ w.cell? ⟨b, o + 4, none⟩ = some (.int .i64 x.conds_) ∧ w.cell? ⟨b, o + 5, none⟩ = some (.int .i64 x.last_)
theorem McAt.below {w w' : World} {b o B : Nat} {x : Mc} (h : McAt w b o x) (hb : Below B w w') (hg : b < B) : McAt w' b o x := by
  obtain ⟨h0, h1, h2, h3, h4, h5⟩ := h
  exact ⟨(hb.cell (p := ⟨b, o, none⟩) hg).trans h0, (hb.cell (p := ⟨b, o + 1, none⟩) hg).trans h1, (hb.cell (p := ⟨b, o + 2, none⟩) hg).trans h2, (hb.cell (p := ⟨b, o + 3, none⟩) hg).trans h3, (hb.cell (p := ⟨b, o + 4, none⟩) hg).trans h4, (hb.cell (p := ⟨b, o + 5, none⟩) hg).trans h5⟩
theorem McAt.other {w : World} {b o : Nat} {x : Mc} (h : McAt w b o x) {p : Addr} (hp : b ≠ p.block) (u : Value) : McAt (w.setCell p u) b o x := by
  have k : ∀ i, (w.setCell p u).cell? ⟨b, i, none⟩ = w.cell? ⟨b, i, none⟩ := fun i => World.cell?_setCell_other w p ⟨b, i, none⟩ u (fun e => hp (by rw [e]))
  obtain ⟨h0, h1, h2, h3, h4, h5⟩ := h
  exact ⟨(k _).trans h0, (k _).trans h1, (k _).trans h2, (k _).trans h3, (k _).trans h4, (k _).trans h5⟩
theorem McAt.range {w : World} {b o : Nat} {x : Mc} (h : McAt w b o x) : w.rangeAt b o x.vs := by
  obtain ⟨h0, h1, h2, h3, h4, h5⟩ := h
  intro j v hj
  match j, hj with
  | 0, hj => cases hj; exact h0
  | 1, hj => cases hj; exact h1
  | 2, hj => cases hj; exact h2
  | 3, hj => cases hj; exact h3
  | 4, hj => cases hj; exact h4
  | 5, hj => cases hj; exact h5
  | j + 6, hj => simp [Mc.vs] at hj
/-- A slice of MatchChoice whose cells lie below B. -/
def McI (w : World) (B : Nat) (A : Option Addr) (n : Nat) (xs : List Mc) : Prop :=
  xs.length = n ∧ n ≤ maxLen ∧ (0 < n → ∃ b off, A = some ⟨b, off, none⟩ ∧ b < B ∧ ∀ (j : Nat) (x : Mc), xs[j]? = some x → McAt w b (off + j * 6) x ∧ True)
theorem McI.below {w w' : World} {B n : Nat} {A : Option Addr} {xs : List Mc} (h : McI w B A n xs) (hb : Below B w w') : McI w' B A n xs :=
  ⟨h.1, h.2.1, fun hn => by
    obtain ⟨b, off, e, hg, hc⟩ := h.2.2 hn
    exact ⟨b, off, e, hg, fun j x hx => ⟨(hc j x hx).1.below hb hg, (hc j x hx).2⟩⟩⟩
theorem McI.more {w : World} {B B' n : Nat} {A : Option Addr} {xs : List Mc} (h : McI w B A n xs) (hB : B ≤ B') : McI w B' A n xs :=
  ⟨h.1, h.2.1, fun hn => by
    obtain ⟨b, off, e, hg, hc⟩ := h.2.2 hn
    exact ⟨b, off, e, by omega, hc⟩⟩
theorem McI.nil (w : World) (B : Nat) (A : Option Addr) : McI w B A 0 [] := ⟨rfl, Nat.zero_le _, fun h => absurd h (by omega)⟩
theorem McI.at_ {w : World} {B n k : Nat} {A : Option Addr} {xs : List Mc} (h : McI w B A n xs) (hk : k < n) : ∃ b off x, A = some ⟨b, off, none⟩ ∧ b < B ∧ xs[k]? = some x ∧ McAt w b (off + k * 6) x ∧ True := by
  obtain ⟨b, off, e, hg, hc⟩ := h.2.2 (by omega)
  have hl : k < xs.length := by rw [h.1]; exact hk
  exact ⟨b, off, xs[k], e, hg, List.getElem?_eq_getElem hl, hc k _ (List.getElem?_eq_getElem hl)⟩
theorem McI.alloc {W : World} {A : Option Addr} {n : Nat} {xs : List Mc} (h : McI W W.heap.size A n xs) (o : Obj) : McI (W.alloc o) (W.alloc o).heap.size A n xs := (h.below (below_alloc W o)).more (by simp)
theorem McI.go {W w : World} {A : Option Addr} {n : Nat} {xs : List Mc} (h : McI W W.heap.size A n xs) (hb : Below W.heap.size W w) : McI w w.heap.size A n xs := (h.below hb).more hb.size
theorem McI.other {w : World} {B n b off : Nat} {xs : List Mc} (h : McI w B (some ⟨b, off, none⟩) n xs) {p : Addr} (hp : b ≠ p.block) (u : Value) : McI (w.setCell p u) B (some ⟨b, off, none⟩) n xs :=
  ⟨h.1, h.2.1, fun hn => by
    obtain ⟨b', off', e, hg, hc⟩ := h.2.2 hn
    simp only [Option.some.injEq, Addr.mk.injEq, and_true] at e
    obtain ⟨rfl, rfl⟩ := e
    exact ⟨b, off, rfl, hg, fun j x hx => ⟨(hc j x hx).1.other hp u, (hc j x hx).2⟩⟩⟩
theorem McI.others {B n b off : Nat} {xs : List Mc} {g : Nat} (hp : b ≠ g) : ∀ {vs : List Value} {w : World} {o : Nat}, McI w B (some ⟨b, off, none⟩) n xs → McI (w.setCells g o vs) B (some ⟨b, off, none⟩) n xs
  | [], _, _, h => h
  | v :: r, w, o, h => McI.others hp (vs := r) (h.other (p := ⟨g, o, none⟩) hp v)
theorem McI.row {w : World} {B n b off : Nat} {xs : List Mc} {g : Nat} (h : McI w B (some ⟨b, off, none⟩) n xs) (hp : b ≠ g) (cs : Array Value) : McI (w.setRow g cs) B (some ⟨b, off, none⟩) n xs :=
  ⟨h.1, h.2.1, fun hn => by
    obtain ⟨b', off', e, hg, hc⟩ := h.2.2 hn
    simp only [Option.some.injEq, Addr.mk.injEq, and_true] at e
    obtain ⟨rfl, rfl⟩ := e
    refine ⟨b, off, rfl, hg, fun j x hx => ⟨?_, (hc j x hx).2⟩⟩
    obtain ⟨h0, h1, h2, h3, h4, h5⟩ := (hc j x hx).1
    exact ⟨(cell_setRow_other w g cs _ hp).trans h0, (cell_setRow_other w g cs _ hp).trans h1, (cell_setRow_other w g cs _ hp).trans h2, (cell_setRow_other w g cs _ hp).trans h3, (cell_setRow_other w g cs _ hp).trans h4, (cell_setRow_other w g cs _ hp).trans h5⟩⟩

section
variable {H : Type} {enc : TypeId × Value → H} {W : World} {base : Nat} {held : Bool}
theorem open_McF {A : Option Addr} {n c fuel : Nat} {x : DataW H × List MemPlace} (hf : DataW.trod enc Try.prog W base (fun _ => true) held fuel 23 [.slice A n c] = some x) :
    ∃ xs, McI W W.heap.size A n xs := by
  obtain ⟨hm, hc⟩ := open_structs Try.underlying23 Try.underlying57 (by kernel_rfl) (by kernel_rfl) (by decide) hf
  by_cases hn : 0 < n
  · obtain ⟨b, off, e, hb, hi⟩ := hc hn
    obtain ⟨xs, hl, hx⟩ := list_of (α := Mc) (P := fun j x => McAt W b (off + j * 6) x ∧ True) (n := n) fun i hin => by
      obtain ⟨v0, y0, m0, c0, t0⟩ := hi i hin 0 _ rfl
      obtain ⟨v1, y1, m1, c1, t1⟩ := hi i hin 1 _ rfl
      obtain ⟨v2, y2, m2, c2, t2⟩ := hi i hin 2 _ rfl
      obtain ⟨v3, y3, m3, c3, t3⟩ := hi i hin 3 _ rfl
      obtain ⟨v4, y4, m4, c4, t4⟩ := hi i hin 4 _ rfl
      obtain ⟨v5, y5, m5, c5, t5⟩ := hi i hin 5 _ rfl
      obtain ⟨z0, e0, _, hz0⟩ := DataW.trod_int Try.underlying2 t0
      obtain ⟨z1, e1, _, hz1⟩ := DataW.trod_int Try.underlying2 t1
      obtain ⟨z2, e2, _, hz2⟩ := DataW.trod_int Try.underlying2 t2
      obtain ⟨z3, e3, _, hz3⟩ := DataW.trod_int Try.underlying2 t3
      obtain ⟨z4, e4, _, hz4⟩ := DataW.trod_int Try.underlying2 t4
      obtain ⟨z5, e5, _, hz5⟩ := DataW.trod_int Try.underlying2 t5
      simp only [List.cons.injEq, and_true] at e0 e1 e2 e3 e4 e5
      subst e0 e1 e2 e3 e4 e5
      exact ⟨⟨z0, z1, z2, z3, z4, z5⟩, ⟨c0, c1, c2, c3, c4, c5⟩, trivial⟩
    exact ⟨xs, hl, hm, fun _ => ⟨b, off, e, hb, fun j x hj => hx j x hj⟩⟩
  · exact ⟨[], by simp; omega, hm, fun h => absurd h hn⟩
end
theorem open_Mc {H : Type} {enc : TypeId × Value → H} {W : World} {A : Option Addr} {n c : Nat} {d : DataW H} {p : List MemPlace} (h : DataW.Trod enc Try.prog W 0 (fun _ => true) true 23 (.slice A n c) d p) :
    ∃ xs, McI W W.heap.size A n xs := by
  obtain ⟨fuel, hf⟩ := h
  exact open_McF (by simpa [Value.cells] using hf)

/-- A MatchChoice's texts' bytes. -/
def szMc1 (x : Mc) : Nat := 0
/-- Those of the first k. -/
def sumMc (xs : List Mc) : Nat → Nat
  | 0 => 0
  | k + 1 => sumMc xs k + ((xs[k]?.map szMc1).getD 0)
theorem sumMc_next {xs : List Mc} {k : Nat} {x : Mc} (h : xs[k]? = some x) : sumMc xs (k + 1) = sumMc xs k + szMc1 x := by
  rw [sumMc, h]
  rfl
theorem sumMc_mono {xs : List Mc} {j : Nat} : ∀ {k : Nat}, j ≤ k → sumMc xs j ≤ sumMc xs k
  | 0, h => by obtain rfl : j = 0 := by omega
               exact Nat.le_refl _
  | k + 1, h => by
    by_cases e : j = k + 1
    · rw [e]; exact Nat.le_refl _
    · have := sumMc_mono (xs := xs) (show j ≤ k by omega)
      rw [sumMc]
      omega
/-- What szMatchChoiceS takes of the bound. -/
def szMc (xs : List Mc) : Nat := xs.length + sumMc xs xs.length


theorem sumMc_zero (xs : List Mc) : ∀ k, sumMc xs k = 0
  | 0 => rfl
  | k + 1 => by
    rw [sumMc, sumMc_zero xs k]
    cases xs[k]? <;> rfl
set_option maxHeartbeats 1000000 in
set_option maxRecDepth 100000 in
theorem szMatchChoiceS_any (A : Option Addr) (n c : Nat) (xs : List Mc) (L : Int) (W : World) (hr : McI W W.heap.size A n xs) (h0 : 0 ≤ L) (hL : L ≤ 1048576) :
    Calls Try.prog 10 #[.slice A n c, .int .i64 L] W (SzL (szMc xs) L W) := by
  have hn := hr.2.1
  have hs : szMc xs = n := by rw [szMc, sumMc_zero, hr.1]; rfl
  rw [hs]
  clear hs hr
  unfold maxLen at hn
  by_cases hbig : L < (n : Int)
  · have h2 : (n : Int) ≤ 9223372036854775807 := by omega
    have HB := Lib.hid hbig
    have d0 : decide (L - n < 0) = true := by simp; omega
    go_enter Try.func10, Try.ntmps10
    go_wp2_with fail
    go_ret
    exact ⟨.inr ⟨HB.out, rfl⟩, Below.refl _ _⟩
  · have h1 : (n : Int) ≤ L := by omega
    have HB := Lib.hid h1
    have d0 : decide (L - n < 0) = false := by simp; omega
    clear hbig
    go_enter Try.func10, Try.ntmps10
    go_wp2_with fail
    go_ret
    exact ⟨.inl ⟨HB.out, rfl⟩, Below.refl _ _⟩


theorem toMatchChoice_any (x : Mc) (W : World) :
    Calls Try.prog 25 #[x.ag] W fun e w' => e = .returned x.ag ∧ Below W.heap.size W w' := by
  obtain ⟨x0, x1, x2, x3, x4, x5⟩ := x
  show Calls Try.prog 25 #[.agg #[.int .i64 x0, .int .i64 x1, .int .i64 x2, .int .i64 x3, .int .i64 x4, .int .i64 x5]] W _
  go_enter Try.func25, Try.ntmps25
  go_wp2
  exact bodyPost_ret (v := .agg #[.int .i64 x0, .int .i64 x1, .int .i64 x2, .int .i64 x3, .int .i64 x4, .int .i64 x5]) (by simp [results, Try.results25, go_sem]) rfl
    ⟨rfl, by repeat (first | exact Below.refl _ _ | refine Below.setCell ?_ (by first | (simp; done) | (simp; omega)) _ | refine Below.alloc ?_ (by first | (simp; done) | (simp; omega)) _)⟩

/-- The elements of block g ahead of j are filled. -/
def FilledMc (w : World) (g j n : Nat) (xs : List Mc) : Prop := ∃ cs, RW 42 w g cs ∧ n * 6 ≤ cs.size ∧ ∀ (i q : Nat) (x : Mc) (v : Value), i < j → xs[i]? = some x → x.vs[q]? = some v → cs[i * 6 + q]? = some v
theorem infoMc : (Try.prog.info? 42).map (fun i => (i.zero, i.size, i.bytes)) = some (some (Value.agg #[.int .i64 0, .int .i64 0, .int .i64 0, .int .i64 0, .int .i64 0, .int .i64 0]), 6, 48) := by kernel_rfl
theorem ownMc {w : World} {B g n : Nat} {xs : List Value} (h : w.ownsRow B 42 6 (.slice (some ⟨g, 0, none⟩) n n) n xs) : ∃ cs, RW 42 w g cs ∧ n * 6 ≤ cs.size := by
  rcases h.2 with ⟨h', _⟩ | ⟨g', cap', cur, h', _, hg, _, _, hsz, _⟩
  · simp at h'
  · simp only [Value.slice.injEq, Option.some.injEq, Addr.mk.injEq, and_true, true_and] at h'
    obtain ⟨rfl, rfl⟩ := h'
    exact ⟨cur, hg, by omega⟩
theorem FilledMc.store {w w2 : World} {g j n : Nat} {xs : List Mc} {x : Mc} (h : FilledMc w g j n xs) (hb : Below w.heap.size w w2) (hx : xs[j]? = some x) (hj : j < n) : FilledMc (w2.setCells g (j * 6) x.vs) g (j + 1) n xs := by
  obtain ⟨cs, hr, hn, hm⟩ := h
  refine ⟨_, (hr.below hb hr.lt).cells, by rw [putL_size]; exact hn, fun i q y v hi hy hv => ?_⟩
  by_cases e : i = j
  · subst e
    rw [hx, Option.some.injEq] at hy
    subst hy
    exact putL_new _ _ _ q v (by rw [show x.vs.length = 6 from rfl]; omega) hv
  · have hq : q < 6 := (List.getElem?_eq_some_iff.1 hv).1
    exact (putL_old _ cs (j * 6) _ (by omega)).trans (hm i q y v (by omega) hy hv)
/-- What toMatchChoiceS answers: a slice at the head of the first new block. -/
def ToMc (xs : List Mc) (n : Nat) (W : World) (e : Ending) (w' : World) : Prop :=
  e = .returned (.slice (some ⟨W.heap.size, 0, none⟩) n n) ∧ Hid (McI w' w'.heap.size (some ⟨W.heap.size, 0, none⟩) n xs ∧ Below W.heap.size W w')

set_option maxHeartbeats 2000000 in
set_option maxRecDepth 100000 in
theorem toMatchChoiceS_any (A : Option Addr) (n c : Nat) (xs : List Mc) (W : World) (hr : McI W W.heap.size A n xs) (hn : n ≤ 1048576) :
    Calls Try.prog 14 #[.slice A n c] W (ToMc xs n W) := by
  obtain ⟨i0, hi, hz0, hz1, hz2⟩ := info_parts infoMc
  have HR := Lib.hid hr
  have h1 : (n : Int) ≤ 1048576 := by omega
  clear hr
  go_enter Try.func14, Try.ntmps14
  go_wp2_with (at_make; refine wpList_make_full _ rfl _ _ 30 rfl W.heap.size 42 i0 (.agg #[.int .i64 0, .int .i64 0, .int .i64 0, .int .i64 0, .int .i64 0, .int .i64 0]) 6 Try.underlying30 hi hz0 hz1 .i64 .i64 n n n rfl rfl rfl rfl (by rw [hz2]; omega) (by unfold maxLen; omega) (Nat.le_refl _) ?_)
  intro w1 hown hgrow
  have HB1 : Hid (Below W.heap.size W w1) := below_grown_none hgrow
  obtain ⟨cs, hcs, hcn⟩ := ownMc hown
  have HG : Hid (W.heap.size < w1.heap.size) := hcs.lt
  have HM : Hid (FilledMc w1 W.heap.size 0 n xs) := ⟨cs, hcs, hcn, fun i q x v hi => absurd hi (by omega)⟩
  clear hown hgrow hcs hcn hi hz0 hz1 hz2
  go_wp2_with fail
  go_loopw [4] (fun i wr => ∃ j : Nat, j ≤ n ∧ i = .int .i64 j ∧ Hid (Below W.heap.size W wr) ∧ Hid (W.heap.size < wr.heap.size) ∧ Hid (FilledMc wr W.heap.size j n xs)) (fun i _ => n - (intOf i).toNat)
  case atStart => exact ⟨0, Nat.zero_le _, rfl, HB1, HG, HM⟩
  case round =>
    obtain ⟨j, hj, rfl, HW, HZ, HJ⟩ := hrel
    by_cases hlt : j < n
    · obtain ⟨b, off, x, rfl, hg, hx, ⟨q0, q1, q2, q3, q4, q5⟩, hxs⟩ := (HR.out.below HW.out).at_ hlt
      obtain ⟨x0, x1, x2, x3, x4, x5⟩ := x
      dsimp only at q0 q1 q2 q3 q4 q5 hxs
      have HX := Lib.hid hx
      have HLT := Lib.hid hlt
      clear hx hxs hg
      have b0 : (0 : Int) ≤ (j : Int) := by omega
      have b1 : (j : Int) < (n : Int) := by omega
      go_wp2_with (first | (go_at_call 25; refine (toMatchChoice_any ⟨x0, x1, x2, x3, x4, x5⟩ _).mono ?_; rintro e w2 ⟨rfl, hb⟩; have HF2 : Hid (FilledMc (w2.setCells W.heap.size (j * 6) [.int .i64 x0, .int .i64 x1, .int .i64 x2, .int .i64 x3, .int .i64 x4, .int .i64 x5]) W.heap.size (j + 1) n xs) := (by have k := HJ.out.store hb HX.out HLT.out; unfold Mc.vs at k; exact k); have HTH : Hid (w2.there W.heap.size (j * 6) 6) := (by obtain ⟨cs, hr, hc, _⟩ := HJ.out; have hlt2 := HLT.out; exact (hr.below hb hr.lt).there (by omega)); have HW2 : Hid (Below W.heap.size W (w2.setCells W.heap.size (j * 6) [.int .i64 x0, .int .i64 x1, .int .i64 x2, .int .i64 x3, .int .i64 x4, .int .i64 x5])) := ((HW.out.trans (hb.mono HW.out.size)).trans (below_cells (Nat.le_refl _) _ _ _)); have HZ2 : Hid (W.heap.size < (w2.setCells W.heap.size (j * 6) [.int .i64 x0, .int .i64 x1, .int .i64 x2, .int .i64 x3, .int .i64 x4, .int .i64 x5]).heap.size) := (by obtain ⟨_, hr, _⟩ := HF2.out; exact hr.lt); have tk1 : True := trivial; clear hb q0 q1 q2 q3 q4 q5) | (clear tk1; refine wpList_store_mid rfl 42 (.tmp 21) (.tmp 20) rfl W.heap.size (j * 6) _ rfl rfl HTH.out (by kernel_rfl) (by kernel_rfl) ?_; go_frame; clear HTH; generalize w2.setCells W.heap.size (j * 6) [.int .i64 x0, .int .i64 x1, .int .i64 x2, .int .i64 x3, .int .i64 x4, .int .i64 x5] = w3 at HF2 HW2 HZ2 ⊢))
      go_roundw
      case rel => exact ⟨j + 1, by omega, by go_num, HW2, HZ2, HF2⟩
      case measure => simp [intOf]; omega
    · have HN : Hid (j = n) := by show _ = _; omega
      go_wp2_with fail
      go_ret
      refine ⟨rfl, Lib.hid ⟨⟨HR.out.1, HR.out.2.1, fun _ => ⟨W.heap.size, 0, rfl, HZ.out, fun i x hx => ?_⟩⟩, HW.out⟩⟩
      obtain ⟨cs, hs, hcs, hm⟩ := HJ.out
      have hil : i < xs.length := (List.getElem?_eq_some_iff.1 hx).1
      have hij : i < j := by have := HN.out; have := HR.out.1; omega
      obtain ⟨_, _, _, _, hc⟩ := HR.out.2.2 (by have := HR.out.1; omega)
      rw [Nat.zero_add]
      exact ⟨⟨(hs.cell _).trans (hm i 0 x _ hij hx rfl), (hs.cell _).trans (hm i 1 x _ hij hx rfl), (hs.cell _).trans (hm i 2 x _ hij hx rfl), (hs.cell _).trans (hm i 3 x _ hij hx rfl), (hs.cell _).trans (hm i 4 x _ hij hx rfl), (hs.cell _).trans (hm i 5 x _ hij hx rfl)⟩, (hc i x hx).2⟩
end Go.Proofs.Ytnneidpdfommjaa
