/- Slices of MatchFrame: what came in or lies below B; szMatchFrameS, toMatchFrameS of the laws. No condition. -/
import Derived.Test.YtnneidpdfommjaaRw
namespace Go.Proofs.Ytnneidpdfommjaa
open Go Go.RowKit

/-- A MatchFrame. -/
structure Mf where
  below_ : Int
  num_ : Int
  return_ : Bool
/-- Its cells. -/
def Mf.vs (x : Mf) : List Value := [.int .i64 x.below_, .int .i64 x.num_, .bool x.return_]
/-- As one value. -/
abbrev Mf.ag (x : Mf) : Value := .agg #[.int .i64 x.below_, .int .i64 x.num_, .bool x.return_]
/-- The cells from o on of block b. -/
def MfAt (w : World) (b o : Nat) (x : Mf) : Prop :=
  w.cell? ⟨b, o, none⟩ = some (.int .i64 x.below_) ∧ w.cell? ⟨b, o + 1, none⟩ = some (.int .i64 x.num_) ∧ w.cell? ⟨b, o + 2, none⟩ = some (.bool x.return_)
theorem MfAt.below {w w' : World} {b o B : Nat} {x : Mf} (h : MfAt w b o x) (hb : Below B w w') (hg : b < B) : MfAt w' b o x := by
  obtain ⟨h0, h1, h2⟩ := h
  exact ⟨(hb.cell (p := ⟨b, o, none⟩) hg).trans h0, (hb.cell (p := ⟨b, o + 1, none⟩) hg).trans h1, (hb.cell (p := ⟨b, o + 2, none⟩) hg).trans h2⟩
theorem MfAt.other {w : World} {b o : Nat} {x : Mf} (h : MfAt w b o x) {p : Addr} (hp : b ≠ p.block) (u : Value) : MfAt (w.setCell p u) b o x := by
  have k : ∀ i, (w.setCell p u).cell? ⟨b, i, none⟩ = w.cell? ⟨b, i, none⟩ := fun i => World.cell?_setCell_other w p ⟨b, i, none⟩ u (fun e => hp (by rw [e]))
  obtain ⟨h0, h1, h2⟩ := h
  exact ⟨(k _).trans h0, (k _).trans h1, (k _).trans h2⟩
theorem MfAt.range {w : World} {b o : Nat} {x : Mf} (h : MfAt w b o x) : w.rangeAt b o x.vs := by
  obtain ⟨h0, h1, h2⟩ := h
  intro j v hj
  match j, hj with
  | 0, hj => cases hj; exact h0
  | 1, hj => cases hj; exact h1
  | 2, hj => cases hj; exact h2
  | j + 3, hj => simp [Mf.vs] at hj
/-- A slice of MatchFrame whose cells lie below B. -/
def MfI (w : World) (B : Nat) (A : Option Addr) (n : Nat) (xs : List Mf) : Prop :=
  xs.length = n ∧ n ≤ maxLen ∧ (0 < n → ∃ b off, A = some ⟨b, off, none⟩ ∧ b < B ∧ ∀ (j : Nat) (x : Mf), xs[j]? = some x → MfAt w b (off + j * 3) x ∧ True)
theorem MfI.below {w w' : World} {B n : Nat} {A : Option Addr} {xs : List Mf} (h : MfI w B A n xs) (hb : Below B w w') : MfI w' B A n xs :=
  ⟨h.1, h.2.1, fun hn => by
    obtain ⟨b, off, e, hg, hc⟩ := h.2.2 hn
    exact ⟨b, off, e, hg, fun j x hx => ⟨(hc j x hx).1.below hb hg, (hc j x hx).2⟩⟩⟩
theorem MfI.more {w : World} {B B' n : Nat} {A : Option Addr} {xs : List Mf} (h : MfI w B A n xs) (hB : B ≤ B') : MfI w B' A n xs :=
  ⟨h.1, h.2.1, fun hn => by
    obtain ⟨b, off, e, hg, hc⟩ := h.2.2 hn
    exact ⟨b, off, e, by omega, hc⟩⟩
theorem MfI.nil (w : World) (B : Nat) (A : Option Addr) : MfI w B A 0 [] := ⟨rfl, Nat.zero_le _, fun h => absurd h (by omega)⟩
theorem MfI.at_ {w : World} {B n k : Nat} {A : Option Addr} {xs : List Mf} (h : MfI w B A n xs) (hk : k < n) : ∃ b off x, A = some ⟨b, off, none⟩ ∧ b < B ∧ xs[k]? = some x ∧ MfAt w b (off + k * 3) x ∧ True := by
  obtain ⟨b, off, e, hg, hc⟩ := h.2.2 (by omega)
  have hl : k < xs.length := by rw [h.1]; exact hk
  exact ⟨b, off, xs[k], e, hg, List.getElem?_eq_getElem hl, hc k _ (List.getElem?_eq_getElem hl)⟩
theorem MfI.alloc {W : World} {A : Option Addr} {n : Nat} {xs : List Mf} (h : MfI W W.heap.size A n xs) (o : Obj) : MfI (W.alloc o) (W.alloc o).heap.size A n xs := (h.below (below_alloc W o)).more (by simp)
theorem MfI.go {W w : World} {A : Option Addr} {n : Nat} {xs : List Mf} (h : MfI W W.heap.size A n xs) (hb : Below W.heap.size W w) : MfI w w.heap.size A n xs := (h.below hb).more hb.size
theorem MfI.other {w : World} {B n b off : Nat} {xs : List Mf} (h : MfI w B (some ⟨b, off, none⟩) n xs) {p : Addr} (hp : b ≠ p.block) (u : Value) : MfI (w.setCell p u) B (some ⟨b, off, none⟩) n xs :=
  ⟨h.1, h.2.1, fun hn => by
    obtain ⟨b', off', e, hg, hc⟩ := h.2.2 hn
    simp only [Option.some.injEq, Addr.mk.injEq, and_true] at e
    obtain ⟨rfl, rfl⟩ := e
    exact ⟨b, off, rfl, hg, fun j x hx => ⟨(hc j x hx).1.other hp u, (hc j x hx).2⟩⟩⟩
theorem MfI.others {B n b off : Nat} {xs : List Mf} {g : Nat} (hp : b ≠ g) : ∀ {vs : List Value} {w : World} {o : Nat}, MfI w B (some ⟨b, off, none⟩) n xs → MfI (w.setCells g o vs) B (some ⟨b, off, none⟩) n xs
  | [], _, _, h => h
  | v :: r, w, o, h => MfI.others hp (vs := r) (h.other (p := ⟨g, o, none⟩) hp v)
theorem MfI.row {w : World} {B n b off : Nat} {xs : List Mf} {g : Nat} (h : MfI w B (some ⟨b, off, none⟩) n xs) (hp : b ≠ g) (cs : Array Value) : MfI (w.setRow g cs) B (some ⟨b, off, none⟩) n xs :=
  ⟨h.1, h.2.1, fun hn => by
    obtain ⟨b', off', e, hg, hc⟩ := h.2.2 hn
    simp only [Option.some.injEq, Addr.mk.injEq, and_true] at e
    obtain ⟨rfl, rfl⟩ := e
    refine ⟨b, off, rfl, hg, fun j x hx => ⟨?_, (hc j x hx).2⟩⟩
    obtain ⟨h0, h1, h2⟩ := (hc j x hx).1
    exact ⟨(cell_setRow_other w g cs _ hp).trans h0, (cell_setRow_other w g cs _ hp).trans h1, (cell_setRow_other w g cs _ hp).trans h2⟩⟩

section
variable {H : Type} {enc : TypeId × Value → H} {W : World} {base : Nat} {held : Bool}
theorem open_MfF {A : Option Addr} {n c fuel : Nat} {x : DataW H × List MemPlace} (hf : DataW.trod enc Try.prog W base (fun _ => true) held fuel 22 [.slice A n c] = some x) :
    ∃ xs, MfI W W.heap.size A n xs := by
  obtain ⟨hm, hc⟩ := open_structs Try.underlying22 Try.underlying55 (by kernel_rfl) (by kernel_rfl) (by decide) hf
  by_cases hn : 0 < n
  · obtain ⟨b, off, e, hb, hi⟩ := hc hn
    obtain ⟨xs, hl, hx⟩ := list_of (α := Mf) (P := fun j x => MfAt W b (off + j * 3) x ∧ True) (n := n) fun i hin => by
      obtain ⟨v0, y0, m0, c0, t0⟩ := hi i hin 0 _ rfl
      obtain ⟨v1, y1, m1, c1, t1⟩ := hi i hin 1 _ rfl
      obtain ⟨v2, y2, m2, c2, t2⟩ := hi i hin 2 _ rfl
      obtain ⟨z0, e0, _, hz0⟩ := DataW.trod_int Try.underlying2 t0
      obtain ⟨z1, e1, _, hz1⟩ := DataW.trod_int Try.underlying2 t1
      obtain ⟨z2, e2, hz2⟩ := DataW.trod_bool Try.underlying4 t2
      simp only [List.cons.injEq, and_true] at e0 e1 e2
      subst e0 e1 e2
      exact ⟨⟨z0, z1, z2⟩, ⟨c0, c1, c2⟩, trivial⟩
    exact ⟨xs, hl, hm, fun _ => ⟨b, off, e, hb, fun j x hj => hx j x hj⟩⟩
  · exact ⟨[], by simp; omega, hm, fun h => absurd h hn⟩
end
theorem open_Mf {H : Type} {enc : TypeId × Value → H} {W : World} {A : Option Addr} {n c : Nat} {d : DataW H} {p : List MemPlace} (h : DataW.Trod enc Try.prog W 0 (fun _ => true) true 22 (.slice A n c) d p) :
    ∃ xs, MfI W W.heap.size A n xs := by
  obtain ⟨fuel, hf⟩ := h
  exact open_MfF (by simpa [Value.cells] using hf)

/-- A MatchFrame's texts' bytes. -/
def szMf1 (x : Mf) : Nat := 0
/-- Those of the first k. -/
def sumMf (xs : List Mf) : Nat → Nat
  | 0 => 0
  | k + 1 => sumMf xs k + ((xs[k]?.map szMf1).getD 0)
theorem sumMf_next {xs : List Mf} {k : Nat} {x : Mf} (h : xs[k]? = some x) : sumMf xs (k + 1) = sumMf xs k + szMf1 x := by
  rw [sumMf, h]
  rfl
theorem sumMf_mono {xs : List Mf} {j : Nat} : ∀ {k : Nat}, j ≤ k → sumMf xs j ≤ sumMf xs k
  | 0, h => by obtain rfl : j = 0 := by omega
               exact Nat.le_refl _
  | k + 1, h => by
    by_cases e : j = k + 1
    · rw [e]; exact Nat.le_refl _
    · have := sumMf_mono (xs := xs) (show j ≤ k by omega)
      rw [sumMf]
      omega
/-- What szMatchFrameS takes of the bound. -/
def szMf (xs : List Mf) : Nat := xs.length + sumMf xs xs.length


theorem sumMf_zero (xs : List Mf) : ∀ k, sumMf xs k = 0
  | 0 => rfl
  | k + 1 => by
    rw [sumMf, sumMf_zero xs k]
    cases xs[k]? <;> rfl
set_option maxHeartbeats 1000000 in
set_option maxRecDepth 100000 in
theorem szMatchFrameS_any (A : Option Addr) (n c : Nat) (xs : List Mf) (L : Int) (W : World) (hr : MfI W W.heap.size A n xs) (h0 : 0 ≤ L) (hL : L ≤ 1048576) :
    Calls Try.prog 9 #[.slice A n c, .int .i64 L] W (SzL (szMf xs) L W) := by
  have hn := hr.2.1
  have hs : szMf xs = n := by rw [szMf, sumMf_zero, hr.1]; rfl
  rw [hs]
  clear hs hr
  unfold maxLen at hn
  by_cases hbig : L < (n : Int)
  · have h2 : (n : Int) ≤ 9223372036854775807 := by omega
    have HB := Lib.hid hbig
    have d0 : decide (L - n < 0) = true := by simp; omega
    go_enter Try.func9, Try.ntmps9
    go_wp2_with fail
    go_ret
    exact ⟨.inr ⟨HB.out, rfl⟩, Below.refl _ _⟩
  · have h1 : (n : Int) ≤ L := by omega
    have HB := Lib.hid h1
    have d0 : decide (L - n < 0) = false := by simp; omega
    clear hbig
    go_enter Try.func9, Try.ntmps9
    go_wp2_with fail
    go_ret
    exact ⟨.inl ⟨HB.out, rfl⟩, Below.refl _ _⟩


theorem toMatchFrame_any (x : Mf) (W : World) :
    Calls Try.prog 24 #[x.ag] W fun e w' => e = .returned x.ag ∧ Below W.heap.size W w' := by
  obtain ⟨x0, x1, x2⟩ := x
  show Calls Try.prog 24 #[.agg #[.int .i64 x0, .int .i64 x1, .bool x2]] W _
  go_enter Try.func24, Try.ntmps24
  go_wp2
  exact bodyPost_ret (v := .agg #[.int .i64 x0, .int .i64 x1, .bool x2]) (by simp [results, Try.results24, go_sem]) rfl
    ⟨rfl, by repeat (first | exact Below.refl _ _ | refine Below.setCell ?_ (by first | (simp; done) | (simp; omega)) _ | refine Below.alloc ?_ (by first | (simp; done) | (simp; omega)) _)⟩

/-- The elements of block g ahead of j are filled. -/
def FilledMf (w : World) (g j n : Nat) (xs : List Mf) : Prop := ∃ cs, RW 40 w g cs ∧ n * 3 ≤ cs.size ∧ ∀ (i q : Nat) (x : Mf) (v : Value), i < j → xs[i]? = some x → x.vs[q]? = some v → cs[i * 3 + q]? = some v
theorem infoMf : (Try.prog.info? 40).map (fun i => (i.zero, i.size, i.bytes)) = some (some (Value.agg #[.int .i64 0, .int .i64 0, .bool false]), 3, 24) := by kernel_rfl
theorem ownMf {w : World} {B g n : Nat} {xs : List Value} (h : w.ownsRow B 40 3 (.slice (some ⟨g, 0, none⟩) n n) n xs) : ∃ cs, RW 40 w g cs ∧ n * 3 ≤ cs.size := by
  rcases h.2 with ⟨h', _⟩ | ⟨g', cap', cur, h', _, hg, _, _, hsz, _⟩
  · simp at h'
  · simp only [Value.slice.injEq, Option.some.injEq, Addr.mk.injEq, and_true, true_and] at h'
    obtain ⟨rfl, rfl⟩ := h'
    exact ⟨cur, hg, by omega⟩
/-- What toMatchFrameS answers: a slice at the head of the first new block. -/
def ToMf (xs : List Mf) (n : Nat) (W : World) (e : Ending) (w' : World) : Prop :=
  e = .returned (.slice (some ⟨W.heap.size, 0, none⟩) n n) ∧ Hid (MfI w' w'.heap.size (some ⟨W.heap.size, 0, none⟩) n xs ∧ Below W.heap.size W w')

set_option maxHeartbeats 2000000 in
set_option maxRecDepth 100000 in
theorem toMatchFrameS_any (A : Option Addr) (n c : Nat) (xs : List Mf) (W : World) (hr : MfI W W.heap.size A n xs) (hn : n ≤ 1048576) :
    Calls Try.prog 13 #[.slice A n c] W (ToMf xs n W) := by
  obtain ⟨i0, hi, hz0, hz1, hz2⟩ := info_parts infoMf
  have HR := Lib.hid hr
  have h1 : (n : Int) ≤ 1048576 := by omega
  clear hr
  go_enter Try.func13, Try.ntmps13
  go_wp2_with (at_make; refine wpList_make_full _ rfl _ _ 29 rfl W.heap.size 40 i0 (.agg #[.int .i64 0, .int .i64 0, .bool false]) 3 Try.underlying29 hi hz0 hz1 .i64 .i64 n n n rfl rfl rfl rfl (by rw [hz2]; omega) (by unfold maxLen; omega) (Nat.le_refl _) ?_)
  intro w1 hown hgrow
  have HB1 : Hid (Below W.heap.size W w1) := below_grown_none hgrow
  obtain ⟨cs, hcs, hcn⟩ := ownMf hown
  have HG : Hid (W.heap.size < w1.heap.size) := hcs.lt
  have HM : Hid (FilledMf w1 W.heap.size 0 n xs) := ⟨cs, hcs, hcn, fun i q x v hi => absurd hi (by omega)⟩
  clear hown hgrow hcs hcn hi hz0 hz1 hz2
  go_wp2_with fail
  go_loopw [4] (fun i wr => ∃ j : Nat, j ≤ n ∧ i = .int .i64 j ∧ Hid (Below W.heap.size W wr) ∧ Hid (W.heap.size < wr.heap.size) ∧ Hid (FilledMf wr W.heap.size j n xs)) (fun i _ => n - (intOf i).toNat)
  case atStart => exact ⟨0, Nat.zero_le _, rfl, HB1, HG, HM⟩
  case round =>
    obtain ⟨j, hj, rfl, HW, HZ, HJ⟩ := hrel
    by_cases hlt : j < n
    · obtain ⟨b, off, x, rfl, hg, hx, ⟨q0, q1, q2⟩, hxs⟩ := (HR.out.below HW.out).at_ hlt
      obtain ⟨x0, x1, x2⟩ := x
      dsimp only at q0 q1 q2 hxs
      have HX := Lib.hid hx
      obtain ⟨cs, hs, hcs, hm⟩ := HJ.out
      have HSB := Lib.hid hs
      have HMM := Lib.hid hm
      have HL0 : Hid (j * 3 < cs.size) := by show _ < _; omega
      have HL1 : Hid (j * 3 + 1 < cs.size) := by show _ < _; omega
      have HL2 : Hid (j * 3 + 2 < cs.size) := by show _ < _; omega
      have HCS := Lib.hid hcs
      clear hs hm hx hxs hg hcs
      have b0 : (0 : Int) ≤ (j : Int) := by omega
      have b1 : (j : Int) < (n : Int) := by omega
      go_wp2_with (go_at_call 24; refine (toMatchFrame_any ⟨x0, x1, x2⟩ _).mono ?_; rintro e w1 ⟨rfl, hb⟩; have HB1 := Lib.hid hb; have HS1 : Hid (RW 40 w1 W.heap.size cs) := HSB.out.below hb HZ.out; have p0 := (HS1.out.cell (j * 3)).trans (Array.getElem?_eq_getElem HL0.out); have p1 := (HS1.out.cell (j * 3 + 1)).trans (Array.getElem?_eq_getElem HL1.out); have p2 := (HS1.out.cell (j * 3 + 2)).trans (Array.getElem?_eq_getElem HL2.out); have z0 := HS1.out.frozen (j * 3); have z1 := HS1.out.frozen (j * 3 + 1); have z2 := HS1.out.frozen (j * 3 + 2); clear hb q0 q1 q2)
      go_roundw
      case rel =>
        refine ⟨j + 1, by omega, by go_num, ?_, ?_, ?_⟩
        · exact (((HW.out.trans (HB1.out.mono (Nat.le_of_lt HZ.out))).setCell (Nat.le_refl _) _).setCell (Nat.le_refl _) _).setCell (Nat.le_refl _) _
        · have h1 := HB1.out.size
          have h2 := HZ.out
          show _ < _
          simp [World.setCell]
          omega
        · refine ⟨_, (((HS1.out).set_ _ _).set_ _ _).set_ _ _, by simpa using HCS.out, fun i q x v hi hxi hv => ?_⟩
          by_cases e : i = j
          · subst e
            rw [HX.out, Option.some.injEq] at hxi
            subst hxi
            exact putL_new _ _ _ q v (by have := HL2.out; simp [Mf.vs]; omega) hv
          · have hq : q < 3 := (List.getElem?_eq_some_iff.1 hv).1
            refine (putL_old (Mf.vs ⟨x0, x1, x2⟩) cs (j * 3) _ (by omega)).trans (HMM.out i q x v (by omega) hxi hv)
      case measure => simp [intOf]; omega
    · have HN : Hid (j = n) := by show _ = _; omega
      go_wp2_with fail
      go_ret
      refine ⟨rfl, Lib.hid ⟨⟨HR.out.1, HR.out.2.1, fun _ => ⟨W.heap.size, 0, rfl, HZ.out, fun i x hx => ?_⟩⟩, HW.out⟩⟩
      obtain ⟨cs, hs, hcs, hm⟩ := HJ.out
      have hil : i < xs.length := (List.getElem?_eq_some_iff.1 hx).1
      have hij : i < j := by have := HN.out; have := HR.out.1; omega
      obtain ⟨_, _, _, _, hc⟩ := HR.out.2.2 (by have := HR.out.1; omega)
      rw [Nat.zero_add]
      exact ⟨⟨(hs.cell _).trans (hm i 0 x _ hij hx rfl), (hs.cell _).trans (hm i 1 x _ hij hx rfl), (hs.cell _).trans (hm i 2 x _ hij hx rfl)⟩, (hc i x hx).2⟩
end Go.Proofs.Ytnneidpdfommjaa
