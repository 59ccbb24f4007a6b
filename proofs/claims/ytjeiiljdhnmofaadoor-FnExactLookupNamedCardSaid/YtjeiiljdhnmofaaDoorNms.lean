/- Slices of Named (a name and a tree of Pattern): as plain data and in memory; opening an argument; szNamed, szNamedS of the laws. No condition. -/
import Derived.Test.YtjeiiljdhnmofaaDoorPtsEq
namespace Go.Proofs.YtjeiiljdhnmofaaDoor
open Go Go.RowKit

structure Nm where
  name : ByteArray
  pt : Pt
/-- As one value, the Kids at A. -/
abbrev Nm.ag (x : Nm) (A : Option Addr) (n c : Nat) : Value := .agg #[.string x.name, .int .i64 x.pt.k, .int .i64 x.pt.n, .string x.pt.t, .slice A n c]
def Nm.vs (x : Nm) (A : Option Addr) (n c : Nat) : List Value := [.string x.name, .int .i64 x.pt.k, .int .i64 x.pt.n, .string x.pt.t, .slice A n c]
/-- Its cells from o on of block b. -/
def NmAt (w : World) (b o : Nat) (x : Nm) (A : Option Addr) (n c : Nat) : Prop :=
  w.cell? ⟨b, o, none⟩ = some (.string x.name) ∧ w.cell? ⟨b, o + 1, none⟩ = some (.int .i64 x.pt.k) ∧ w.cell? ⟨b, o + 2, none⟩ = some (.int .i64 x.pt.n) ∧ w.cell? ⟨b, o + 3, none⟩ = some (.string x.pt.t) ∧ w.cell? ⟨b, o + 4, none⟩ = some (.slice A n c)
theorem NmAt.below {w w' : World} {b o B : Nat} {x : Nm} {A : Option Addr} {n c : Nat} (h : NmAt w b o x A n c) (hb : Below B w w') (hg : b < B) : NmAt w' b o x A n c := by
  obtain ⟨h0, h1, h2, h3, h4⟩ := h
  exact ⟨(hb.cell (p := ⟨b, o, none⟩) hg).trans h0, (hb.cell (p := ⟨b, o + 1, none⟩) hg).trans h1, (hb.cell (p := ⟨b, o + 2, none⟩) hg).trans h2, (hb.cell (p := ⟨b, o + 3, none⟩) hg).trans h3, (hb.cell (p := ⟨b, o + 4, none⟩) hg).trans h4⟩
/-- One of them: its texts' sizes, its Kids. -/
def NmV (w : World) (lo B d : Nat) (x : Nm) (A : Option Addr) (n : Nat) : Prop := x.name.size ≤ maxLen ∧ x.pt.t.size ≤ maxLen ∧ PtD w lo B d A n x.pt.kids
theorem NmV.below {w w' : World} {lo B d n : Nat} {A : Option Addr} {x : Nm} (h : NmV w lo B d x A n) (hb : Below B w w') : NmV w' lo B d x A n := ⟨h.1, h.2.1, h.2.2.below hb⟩
theorem NmV.more {w : World} {lo B lo' B' d n : Nat} {A : Option Addr} {x : Nm} (h : NmV w lo B d x A n) (hl : lo' ≤ lo) (hB : B ≤ B') : NmV w lo' B' d x A n := ⟨h.1, h.2.1, h.2.2.more hl hB⟩
theorem NmV.go {W w : World} {lo d n : Nat} {A : Option Addr} {x : Nm} (h : NmV W lo W.heap.size d x A n) (hb : Below W.heap.size W w) : NmV w lo w.heap.size d x A n := (h.below hb).more (Nat.le_refl _) hb.size
theorem NmV.pt {w : World} {lo B d n : Nat} {A : Option Addr} {x : Nm} (h : NmV w lo B d x A n) : PtV w lo B d x.pt A n := h.2
/-- A slice of them. -/
def NmI (w : World) (lo B d : Nat) (A : Option Addr) (n : Nat) (xs : List Nm) : Prop :=
  xs.length = n ∧ n ≤ maxLen ∧ (0 < n → ∃ b off, A = some ⟨b, off, none⟩ ∧ lo ≤ b ∧ b < B ∧ ∀ (j : Nat) (x : Nm), xs[j]? = some x → ∃ (A' : Option Addr) (n' c' : Nat), n' ≤ c' ∧ NmAt w b (off + j * 5) x A' n' c' ∧ NmV w lo B d x A' n')
theorem NmI.below {w w' : World} {lo B d n : Nat} {A : Option Addr} {xs : List Nm} (h : NmI w lo B d A n xs) (hb : Below B w w') : NmI w' lo B d A n xs :=
  ⟨h.1, h.2.1, fun hn => by
    obtain ⟨b, off, e, hl, hg, hc⟩ := h.2.2 hn
    refine ⟨b, off, e, hl, hg, fun j x hx => ?_⟩
    obtain ⟨A', n', c', h1, h2, h3⟩ := hc j x hx
    exact ⟨A', n', c', h1, h2.below hb hg, h3.below hb⟩⟩
theorem NmI.more {w : World} {lo B lo' B' d n : Nat} {A : Option Addr} {xs : List Nm} (h : NmI w lo B d A n xs) (hl : lo' ≤ lo) (hB : B ≤ B') : NmI w lo' B' d A n xs :=
  ⟨h.1, h.2.1, fun hn => by
    obtain ⟨b, off, e, h0, hg, hc⟩ := h.2.2 hn
    refine ⟨b, off, e, by omega, by omega, fun j x hx => ?_⟩
    obtain ⟨A', n', c', h1, h2, h3⟩ := hc j x hx
    exact ⟨A', n', c', h1, h2, h3.more hl hB⟩⟩
theorem NmI.go {W w : World} {lo d n : Nat} {A : Option Addr} {xs : List Nm} (h : NmI W lo W.heap.size d A n xs) (hb : Below W.heap.size W w) : NmI w lo w.heap.size d A n xs := (h.below hb).more (Nat.le_refl _) hb.size
theorem NmI.zero {w : World} {lo B d n : Nat} {A : Option Addr} {xs : List Nm} (h : NmI w lo B d A n xs) : NmI w 0 B d A n xs := h.more (Nat.zero_le _) (Nat.le_refl _)
theorem NmI.at_ {w : World} {lo B d n k : Nat} {A : Option Addr} {xs : List Nm} (h : NmI w lo B d A n xs) (hk : k < n) :
    ∃ (b off : Nat) (x : Nm) (A' : Option Addr) (n' c' : Nat), A = some ⟨b, off, none⟩ ∧ lo ≤ b ∧ b < B ∧ xs[k]? = some x ∧ n' ≤ c' ∧ NmAt w b (off + k * 5) x A' n' c' ∧ NmV w lo B d x A' n' := by
  obtain ⟨b, off, e, hl, hg, hc⟩ := h.2.2 (by omega)
  have hlt : k < xs.length := by rw [h.1]; exact hk
  obtain ⟨A', n', c', h1, h2, h3⟩ := hc k _ (List.getElem?_eq_getElem hlt)
  exact ⟨b, off, xs[k], A', n', c', e, hl, hg, List.getElem?_eq_getElem hlt, h1, h2, h3⟩
theorem NmAt.range {w : World} {b o : Nat} {x : Nm} {A : Option Addr} {n c : Nat} (h : NmAt w b o x A n c) : w.rangeAt b o (x.vs A n c) := by
  obtain ⟨h0, h1, h2, h3, h4⟩ := h
  intro j v hj
  match j, hj with
  | 0, hj => cases hj; exact h0
  | 1, hj => cases hj; exact h1
  | 2, hj => cases hj; exact h2
  | 3, hj => cases hj; exact h3
  | 4, hj => cases hj; exact h4
  | j + 5, hj => simp [Nm.vs] at hj

section
variable {H : Type} {enc : TypeId × Value → H} {W : World}
set_option maxRecDepth 100000 in
theorem open_NmN {fuel : Nat} {cs : List Value} {x : DataW H × List MemPlace} (h : DataW.trod enc Tryd.prog W 0 (fun _ => true) true fuel 76 cs = some x) :
    ∃ (d : Nat) (x : Nm) (A : Option Addr) (n c : Nat), d ≤ fuel ∧ n ≤ c ∧ cs = Nm.vs x A n c ∧ NmV W 0 W.heap.size d x A n := by
  obtain ⟨ys, m, hm, _, hlen, _, hf⟩ := DataW.trod_struct Tryd.underlying76 h
  have hlen' : cs.length = 5 := hlen.trans (by kernel_rfl)
  match cs, hlen' with
  | [c0, c1, c2, c3, c4], _ =>
    have hys : ∀ i, i < 2 → ∃ y, ys[i]? = some y := by
      intro i hi
      have : ys.length = 2 := by assumption
      exact ⟨_, List.getElem?_eq_getElem (by omega)⟩
    have f0 : DataW.trod enc Tryd.prog W 0 (fun _ => true) true m 9 [c0] = ys[0]? := field_at (i := 0) (o := 0) (k := 1) (T := 9) hf (by kernel_rfl) (by kernel_rfl)
    have f1 : DataW.trod enc Tryd.prog W 0 (fun _ => true) true m 24 [c1, c2, c3, c4] = ys[1]? := field_at (i := 1) (o := 1) (k := 4) (T := 24) hf (by kernel_rfl) (by kernel_rfl)
    obtain ⟨y0, g0⟩ := hys 0 (by decide)
    obtain ⟨y1, g1⟩ := hys 1 (by decide)
    rw [g0] at f0
    rw [g1] at f1
    obtain ⟨z0, e0, _, hz0⟩ := DataW.trod_string Tryd.underlying9 f0
    obtain ⟨x, A, n, c, hnc, e1, ho⟩ := open_PtN (d := m) (fun q A n c y hq hy => by
      obtain ⟨xs, hxs⟩ := open_PtF hy
      rw [hq]
      exact ⟨xs, hxs⟩) f1
    simp only [List.cons.injEq, and_true] at e0
    subst e0
    simp only [Pt.vs, List.cons.injEq, and_true] at e1
    obtain ⟨rfl, rfl, rfl, rfl⟩ := e1
    exact ⟨m, ⟨z0, x⟩, A, n, c, by omega, hnc, rfl, hz0, ho.1, ho.2⟩
theorem PtD.upTo {w : World} {lo B : Nat} {A : Option Addr} {n : Nat} {xs : List Pt} {d : Nat} (h : PtD w lo B d A n xs) : ∀ {e : Nat}, d ≤ e → PtD w lo B e A n xs
  | 0, he => by obtain rfl : d = 0 := by omega
                exact h
  | e + 1, he => by
    by_cases hd : d = e + 1
    · rw [← hd]; exact h
    · exact (PtD.upTo h (show d ≤ e by omega)).deeper
set_option maxRecDepth 100000 in
theorem open_NmF {fuel : Nat} {A : Option Addr} {n c : Nat} {x : DataW H × List MemPlace} (hf : DataW.trod enc Tryd.prog W 0 (fun _ => true) true fuel 40 [.slice A n c] = some x) : ∃ xs, NmI W 0 W.heap.size fuel A n xs := by
  rcases DataW.trod_slice Tryd.underlying40 hf with ⟨h0, _⟩ | ⟨a, len, cap, elems, rest, m, hfm, hcs, _, hb, hl, hm, hlen, hel, _⟩
  · simp at h0
    obtain ⟨rfl, rfl, rfl⟩ := h0
    exact ⟨[], rfl, Nat.zero_le _, fun h => absurd h (by omega)⟩
  · simp only [List.cons.injEq, Value.slice.injEq, and_true] at hcs
    obtain ⟨rfl, rfl, rfl⟩ := hcs
    have hC : Tryd.prog.cellsOf 76 = 5 := by kernel_rfl
    have key : ∀ i, i < n → ∃ (x : Nm) (A' : Option Addr) (n' c' : Nat), n' ≤ c' ∧ (∀ j v, (Nm.vs x A' n' c')[j]? = some v → W.cell? (a.add (i * 5 + j)) = some v) ∧ NmV W 0 W.heap.size fuel x A' n' := by
      intro i hin
      have h1 := hel i hin
      rw [List.getElem?_eq_getElem (by omega), Option.bind_eq_some_iff] at h1
      obtain ⟨cs', hc, ht'⟩ := h1
      rw [hC] at hc
      obtain ⟨d, x, A', n', c', hd, hnc, e, ho⟩ := open_NmN ht'
      obtain ⟨_, hcl, hat⟩ := World.cells?_some hc
      refine ⟨x, A', n', c', hnc, fun j v hj => ?_, ho.1, ho.2.1, ho.2.2.upTo (by omega)⟩
      rw [← e] at hj
      have hjl : j < 5 := by have := (List.getElem?_eq_some_iff.1 hj).1; omega
      rw [← Go.Deep.add_add, hat j hjl, hj]
    have hnm : n ≤ maxLen := Nat.le_trans hl hm
    by_cases hn : 0 < n
    · obtain ⟨ab, ao, spot⟩ := a
      obtain ⟨x0, A0, n0, c0, _, h0, _⟩ := key 0 hn
      have h00 := h0 0 _ rfl
      have hspot : spot = none := by simpa [Addr.add] using World.cell?_spot h00
      subst hspot
      rw [Addr.add_lit] at h00
      obtain ⟨xs, hl', hx'⟩ := list_of (α := Nm) (P := fun j x => ∃ (A' : Option Addr) (n' c' : Nat), n' ≤ c' ∧ NmAt W ab (ao + j * 5) x A' n' c' ∧ NmV W 0 W.heap.size fuel x A' n') (n := n) fun i hin => by
        obtain ⟨x, A', n', c', hnc, hc, ho⟩ := key i hin
        have hc' : ∀ j v, (Nm.vs x A' n' c')[j]? = some v → W.cell? ⟨ab, ao + i * 5 + j, none⟩ = some v := by
          intro j v hj
          have := hc j v hj
          rw [Addr.add_lit, ← Nat.add_assoc] at this
          exact this
        exact ⟨x, A', n', c', hnc, ⟨hc' 0 _ rfl, hc' 1 _ rfl, hc' 2 _ rfl, hc' 3 _ rfl, hc' 4 _ rfl⟩, ho⟩
      exact ⟨xs, hl', hnm, fun _ => ⟨ab, ao, rfl, Nat.zero_le _, World.block_lt_of_cell? W ⟨ab, _, none⟩ h00, hx'⟩⟩
    · exact ⟨[], by simp; omega, hnm, fun h => absurd h hn⟩
end
/-- An argument that is a slice of them. -/
theorem open_NmS {H : Type} {enc : TypeId × Value → H} {W : World} {A : Option Addr} {n c : Nat} {d : DataW H} {p : List MemPlace} (h : DataW.Trod enc Tryd.prog W 0 (fun _ => true) true 40 (.slice A n c) d p) :
    ∃ d xs, NmI W 0 W.heap.size d A n xs := by
  obtain ⟨fuel, hf⟩ := h
  obtain ⟨xs, hxs⟩ := open_NmF (by simpa [Value.cells] using hf)
  exact ⟨_, xs, hxs⟩

def szNm1 (x : Nm) : Nat := x.name.size + ptSz x.pt
def sumNm (xs : List Nm) : Nat → Nat
  | 0 => 0
  | k + 1 => sumNm xs k + ((xs[k]?.map szNm1).getD 0)
theorem sumNm_next {xs : List Nm} {k : Nat} {x : Nm} (h : xs[k]? = some x) : sumNm xs (k + 1) = sumNm xs k + szNm1 x := by
  rw [sumNm, h]
  rfl
theorem sumNm_mono {xs : List Nm} {j : Nat} : ∀ {k : Nat}, j ≤ k → sumNm xs j ≤ sumNm xs k
  | 0, h => by obtain rfl : j = 0 := by omega
               exact Nat.le_refl _
  | k + 1, h => by
    by_cases e : j = k + 1
    · rw [e]; exact Nat.le_refl _
    · have := sumNm_mono (xs := xs) (show j ≤ k by omega)
      rw [sumNm]
      omega
def szNm (xs : List Nm) : Nat := xs.length + sumNm xs xs.length
theorem small_Nm {xs : List Nm} (h : (szNm xs : Int) ≤ 1048576) : (∀ (j : Nat) (x : Nm), xs[j]? = some x → szNm1 x ≤ 1048576) ∧ xs.length ≤ 1048576 := by
  unfold szNm at h
  refine ⟨fun j x hx => ?_, by omega⟩
  have hl := (List.getElem?_eq_some_iff.1 hx).1
  have h1 := sumNm_mono (xs := xs) (j := j + 1) (k := xs.length) (by omega)
  rw [sumNm_next hx] at h1
  omega

theorem ag_pt (x : Pt) (A : Option Addr) (n c : Nat) : x.ag A n c = .agg #[.int .i64 x.k, .int .i64 x.n, .string x.t, .slice A n c] := rfl

set_option maxHeartbeats 1000000 in
set_option maxRecDepth 100000 in
theorem szNamed_any (d : Nat) (x : Nm) (A : Option Addr) (n c : Nat) (L : Int) (W : World) (ho : NmV W 0 W.heap.size d x A n) (h0 : 0 ≤ L) (hL : L ≤ 1048576) :
    Calls Tryd.prog 55 #[x.ag A n c, .int .i64 L] W (SzL (szNm1 x) L W) := by
  obtain ⟨s, hs⟩ : ∃ s, szNm1 x = s := ⟨_, rfl⟩
  rw [hs]
  unfold szNm1 at hs
  obtain ⟨nm, k, m, t, ks⟩ := x
  dsimp only at hs
  have ht : nm.size ≤ maxLen := ho.1
  unfold maxLen at ht
  obtain ⟨q, hq⟩ : ∃ q, ptSz (.node k m t ks) = q := ⟨_, rfl⟩
  rw [hq] at hs
  have HQ := Lib.hid (fun L X (hX : Below W.heap.size W X) (h0 : 0 ≤ L) (hL : L ≤ 1048576) => szPattern_any d (.node k m t ks) A n c L X ((show PtV W 0 W.heap.size d (.node k m t ks) A n from ho.2).go hX) h0 hL)
  rw [hq] at HQ
  have HS := Lib.hid hs
  have HC := Lib.hid (fun X (e : X = W.alloc (.cells #[.string nm, .int .i64 k, .int .i64 m, .string t, .slice A n c] 76)) => (show Below W.heap.size W X from by rw [e]; exact below_alloc _ _))
  clear hs hq ho
  show Calls Tryd.prog 55 #[.agg #[.string nm, .int .i64 k, .int .i64 m, .string t, .slice A n c], .int .i64 L] W _
  by_cases c0 : (nm.size : Int) ≤ L
  · have d0 : decide (L - (nm.size : Int) < 0) = false := by simp; omega
    have B0 : Hid (0 ≤ L - (nm.size : Int)) := by show _ ≤ _; omega
    have B1 : Hid (L - (nm.size : Int) ≤ 1048576) := by show _ ≤ _; omega
    by_cases c1 : (q : Int) ≤ L - (nm.size : Int)
    · have C1 := Lib.hid c1
      clear c0 c1
      go_enter Tryd.func55, Tryd.ntmps55
      go_wp2_with (go_at_call 10; have g := HC.out _ rfl; refine Calls.mono (HQ.out (L - (nm.size : Int)) _ g B0.out B1.out) ?_; intro e w1 h; obtain ⟨z1, rfl, hz1, l1, u1, hb⟩ := h.fits C1.out B1.out; have Z1 := Lib.hid hz1; have d1 : decide (z1 < 0) = false := (by simp; omega); have HB1 := Lib.hid (g.trans (hb.mono g.size)); clear g h hb hz1)
      go_ret
      refine ⟨.inl ⟨by have := HS.out; have := C1.out; omega, ?_⟩, HB1.out⟩
      have hx : z1 = L - (s : Int) := by have := HS.out; have := Z1.out; omega
      rw [← hx]
      rfl
    · have C1 := Lib.hid c1
      clear c0 c1
      go_enter Tryd.func55, Tryd.ntmps55
      go_wp2_with (go_at_call 10; have g := HC.out _ rfl; refine Calls.mono (HQ.out (L - (nm.size : Int)) _ g B0.out B1.out) ?_; intro e w1 h; obtain ⟨rfl, hb⟩ := h.long C1.out; have HB1 := Lib.hid (g.trans (hb.mono g.size)); clear g h hb)
      go_ret
      exact ⟨.inr ⟨by have := HS.out; have := C1.out; omega, rfl⟩, HB1.out⟩
  · have d0 : decide (L - (nm.size : Int) < 0) = true := by simp; omega
    have HX : Hid (L < (s : Int)) := by have := HS.out; show _ < _; omega
    clear c0
    go_enter Tryd.func55, Tryd.ntmps55
    go_wp2_with fail
    go_ret
    exact ⟨.inr ⟨HX.out, rfl⟩, HC.out _ rfl⟩

set_option maxHeartbeats 1000000 in
set_option maxRecDepth 100000 in
theorem szNamedS_any (d : Nat) (A : Option Addr) (n c : Nat) (xs : List Nm) (L : Int) (W : World) (hr : NmI W 0 W.heap.size d A n xs) (h0 : 0 ≤ L) (hL : L ≤ 1048576) :
    Calls Tryd.prog 19 #[.slice A n c, .int .i64 L] W (SzL (szNm xs) L W) := by
  have HR := Lib.hid hr
  have hn := hr.2.1
  have hxn := hr.1
  clear hr
  obtain ⟨s, hs⟩ : ∃ s, szNm xs = s := ⟨_, rfl⟩
  have HS : Hid (s = n + sumNm xs n) := by show _ = _; rw [← hs, szNm, hxn]
  rw [hs]
  clear hs hxn
  unfold maxLen at hn
  by_cases hbig : L < (n : Int)
  · have HB : Hid (L < (s : Int)) := by show _ < _; have := HS.out; omega
    have h2 : (n : Int) ≤ 9223372036854775807 := by omega
    have d0 : decide (L - n < 0) = true := by simp; omega
    go_enter Tryd.func19, Tryd.ntmps19
    go_wp2_with fail
    go_ret
    exact ⟨.inr ⟨HB.out, rfl⟩, Below.refl _ _⟩
  · have h1 : (n : Int) ≤ L := by omega
    have hn' : n ≤ 1048576 := by omega
    have d0 : decide (L - n < 0) = false := by simp; omega
    clear hbig
    go_enter Tryd.func19, Tryd.ntmps19
    go_wp2_with fail
    go_loopw [1, 5] (fun q i wr => ∃ k : Nat, ∃ z : Int, k ≤ n ∧ i = .int .i64 k ∧ q = .int .i64 z ∧ 0 ≤ z ∧ z ≤ 1048576 ∧ Hid (z = L - (n : Int) - (sumNm xs k : Int)) ∧ Hid (Below W.heap.size W wr)) (fun _ i _ => n - (intOf i).toNat)
    case atStart => exact ⟨0, _, Nat.zero_le _, rfl, rfl, by omega, by omega, by show _ = _; simp [sumNm], Below.refl _ _⟩
    case round =>
      obtain ⟨k, z, hk, rfl, rfl, hz0, hz1, HZ, HW⟩ := hrel
      by_cases hlt : k < n
      · obtain ⟨b, off, x, A1, n1, c1, rfl, _, hg, hx, _, ⟨q0, q1, q2, q3, q4⟩, hov⟩ := (HR.out.below HW.out).at_ hlt
        have HO := Lib.hid (hov.more (Nat.le_refl _) HW.out.size)
        have HX := Lib.hid hx
        have b0 : (0 : Int) ≤ (k : Int) := by omega
        have b1 : (k : Int) < (n : Int) := by omega
        have HZ0 : Hid (0 ≤ z) := hz0
        have HZ1 : Hid (z ≤ 1048576) := hz1
        clear hx hov hg
        by_cases hf : (szNm1 x : Int) ≤ z
        · have HF := Lib.hid hf
          have HN : Hid (sumNm xs (k + 1) = sumNm xs k + szNm1 x) := sumNm_next HX.out
          clear hf
          go_wp2_with (go_at_call 55; refine (szNamed_any d x A1 n1 c1 _ _ HO.out HZ0.out HZ1.out).mono ?_; intro e w1 h; obtain ⟨z1, rfl, hz2, l1, u1, hb⟩ := h.fits HF.out HZ1.out; have Z1 := Lib.hid hz2; have dz : decide (z1 < 0) = false := (by simp; omega); have HW1 : Hid (Below W.heap.size W w1) := HW.out.trans (hb.mono HW.out.size); clear hb hz2)
          go_roundw
          case rel => exact ⟨k + 1, _, by omega, by go_num, rfl, by omega, by omega, by show _ = _; rw [HN.out, Z1.out, HZ.out]; omega, HW1⟩
          case measure => simp [intOf]; omega
        · have HF := Lib.hid hf
          have HBIG : Hid (L < (s : Int)) := by
            show _ < _
            have h1 := sumNm_mono (xs := xs) (j := k + 1) (k := n) (by omega)
            rw [sumNm_next HX.out] at h1
            have h2 := HZ.out
            have h3 := HS.out
            omega
          clear hf
          go_wp2_with (go_at_call 55; refine (szNamed_any d x A1 n1 c1 _ _ HO.out HZ0.out HZ1.out).mono ?_; intro e w1 h; obtain ⟨rfl, hb⟩ := h.long HF.out; have HW1 : Hid (Below W.heap.size W w1) := HW.out.trans (hb.mono HW.out.size); clear hb)
          go_ret
          exact ⟨.inr ⟨HBIG.out, rfl⟩, HW1.out⟩
      · have hkn : k = n := by omega
        have HE : Hid ((s : Int) ≤ L ∧ z = L - (s : Int)) := by
          have h := HZ.out
          have h3 := HS.out
          rw [hkn] at h
          exact ⟨by omega, by omega⟩
        go_wp2_with fail
        go_ret
        exact ⟨.inl ⟨HE.out.1, by rw [HE.out.2]; rfl⟩, HW.out⟩
end Go.Proofs.YtjeiiljdhnmofaaDoor
