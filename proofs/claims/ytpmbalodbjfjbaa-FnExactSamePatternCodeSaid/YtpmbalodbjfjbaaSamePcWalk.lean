/- The law's walk: FnExactSamePatternCode. No condition. -/
import Derived.Test.YtpmbalodbjfjbaaPcdSame
namespace Go.Proofs.Ytpmbalodbjfjbaa
open Go Go.RowKit

def LawS (W : World) (ra rb : Array Value) (w : World) : Prop := RW 25 w W.heap.size ra ∧ RW 25 w (W.heap.size + 1) rb ∧ Below W.heap.size W w
theorem LawS.grow {W w w' : World} {ra rb : Array Value} (h : LawS W ra rb w) (hb : Below w.heap.size w w') : LawS W ra rb w' :=
  ⟨h.1.below hb h.1.lt, h.2.1.below hb h.2.1.lt, h.2.2.trans (hb.mono h.2.2.size)⟩
/-- .. and the two copies in blocks p, q. -/
def LawT (W : World) (ra rb : Array Value) (p q : Nat) (pa pb : Array Value) (x y : Pc) (l l' : PcLay) (w : World) : Prop :=
  LawS W ra rb w ∧ RW 31 w p pa ∧ RW 31 w q pb ∧ PcV w w.heap.size x l ∧ PcV w w.heap.size y l'
theorem LawT.grow {W w w' : World} {ra rb pa pb : Array Value} {p q : Nat} {x y : Pc} {l l' : PcLay} (h : LawT W ra rb p q pa pb x y l l' w) (hb : Below w.heap.size w w') : LawT W ra rb p q pa pb x y l l' w' :=
  ⟨h.1.grow hb, h.2.1.below hb h.2.1.lt, h.2.2.1.below hb h.2.2.1.lt, h.2.2.2.1.go hb, h.2.2.2.2.go hb⟩

def LawSL (W : World) (x0 : List Pi) (x1 : List Pe) (A0a : Option Addr) (n0a c0a : Nat) (h0a : n0a ≤ c0a) (A1a : Option Addr) (n1a c1a : Nat) (h1a : n1a ≤ c1a) (y0 : List Pi) (y1 : List Pe) (A0b : Option Addr) (n0b c0b : Nat) (h0b : n0b ≤ c0b) (A1b : Option Addr) (n1b c1b : Nat) (h1b : n1b ≤ c1b) (w : World) : Prop := LawS W #[.slice A0a n0a c0a, .slice A1a n1a c1a] #[.slice A0b n0b c0b, .slice A1b n1b c1b] w
def LawTL (W : World) (p q : Nat) (x0 : List Pi) (x1 : List Pe) (A0a : Option Addr) (n0a c0a : Nat) (h0a : n0a ≤ c0a) (A1a : Option Addr) (n1a c1a : Nat) (h1a : n1a ≤ c1a) (y0 : List Pi) (y1 : List Pe) (A0b : Option Addr) (n0b c0b : Nat) (h0b : n0b ≤ c0b) (A1b : Option Addr) (n1b c1b : Nat) (h1b : n1b ≤ c1b) (A0p : Option Addr) (n0p c0p : Nat) (h0p : n0p ≤ c0p) (A1p : Option Addr) (n1p c1p : Nat) (h1p : n1p ≤ c1p) (A0q : Option Addr) (n0q c0q : Nat) (h0q : n0q ≤ c0q) (A1q : Option Addr) (n1q c1q : Nat) (h1q : n1q ≤ c1q) (w : World) : Prop := LawT W #[.slice A0a n0a c0a, .slice A1a n1a c1a] #[.slice A0b n0b c0b, .slice A1b n1b c1b] p q #[.slice A0p n0p c0p, .slice A1p n1p c1p] #[.slice A0q n0q c0q, .slice A1q n1q c1q] ⟨x0, x1⟩ ⟨y0, y1⟩ ⟨A0p, n0p, c0p, h0p, A1p, n1p, c1p, h1p⟩ ⟨A0q, n0q, c0q, h0q, A1q, n1q, c1q, h1q⟩ w
abbrev FlatSL (W : World) (x0 : List Pi) (x1 : List Pe) (A0a : Option Addr) (n0a c0a : Nat) (h0a : n0a ≤ c0a) (A1a : Option Addr) (n1a c1a : Nat) (h1a : n1a ≤ c1a) (y0 : List Pi) (y1 : List Pe) (A0b : Option Addr) (n0b c0b : Nat) (h0b : n0b ≤ c0b) (A1b : Option Addr) (n1b c1b : Nat) (h1b : n1b ≤ c1b) (w : World) : Prop := ((w.cell? ⟨W.heap.size, 0, none⟩ = some (.slice A0a n0a c0a) ∧ w.cell? ⟨W.heap.size, 1, none⟩ = some (.slice A1a n1a c1a)) ∧ (w.cell? ⟨W.heap.size + 1, 0, none⟩ = some (.slice A0b n0b c0b) ∧ w.cell? ⟨W.heap.size + 1, 1, none⟩ = some (.slice A1b n1b c1b))) ∧ LawSL W x0 x1 A0a n0a c0a h0a A1a n1a c1a h1a y0 y1 A0b n0b c0b h0b A1b n1b c1b h1b w
abbrev FlatTL (W : World) (p q : Nat) (x0 : List Pi) (x1 : List Pe) (A0a : Option Addr) (n0a c0a : Nat) (h0a : n0a ≤ c0a) (A1a : Option Addr) (n1a c1a : Nat) (h1a : n1a ≤ c1a) (y0 : List Pi) (y1 : List Pe) (A0b : Option Addr) (n0b c0b : Nat) (h0b : n0b ≤ c0b) (A1b : Option Addr) (n1b c1b : Nat) (h1b : n1b ≤ c1b) (A0p : Option Addr) (n0p c0p : Nat) (h0p : n0p ≤ c0p) (A1p : Option Addr) (n1p c1p : Nat) (h1p : n1p ≤ c1p) (A0q : Option Addr) (n0q c0q : Nat) (h0q : n0q ≤ c0q) (A1q : Option Addr) (n1q c1q : Nat) (h1q : n1q ≤ c1q) (w : World) : Prop := ((w.cell? ⟨W.heap.size, 0, none⟩ = some (.slice A0a n0a c0a) ∧ w.cell? ⟨W.heap.size, 1, none⟩ = some (.slice A1a n1a c1a)) ∧ (w.cell? ⟨W.heap.size + 1, 0, none⟩ = some (.slice A0b n0b c0b) ∧ w.cell? ⟨W.heap.size + 1, 1, none⟩ = some (.slice A1b n1b c1b))) ∧ ((w.cell? ⟨p, 0, none⟩ = some (.slice A0p n0p c0p) ∧ w.cell? ⟨p, 1, none⟩ = some (.slice A1p n1p c1p)) ∧ (w.cell? ⟨q, 0, none⟩ = some (.slice A0q n0q c0q) ∧ w.cell? ⟨q, 1, none⟩ = some (.slice A1q n1q c1q))) ∧ LawTL W p q x0 x1 A0a n0a c0a h0a A1a n1a c1a h1a y0 y1 A0b n0b c0b h0b A1b n1b c1b h1b A0p n0p c0p h0p A1p n1p c1p h1p A0q n0q c0q h0q A1q n1q c1q h1q w
section
variable {W w w' : World} {p q : Nat} {x0 : List Pi} {x1 : List Pe} {A0a : Option Addr} {n0a c0a : Nat} {h0a : n0a ≤ c0a} {A1a : Option Addr} {n1a c1a : Nat} {h1a : n1a ≤ c1a} {y0 : List Pi} {y1 : List Pe} {A0b : Option Addr} {n0b c0b : Nat} {h0b : n0b ≤ c0b} {A1b : Option Addr} {n1b c1b : Nat} {h1b : n1b ≤ c1b} {A0p : Option Addr} {n0p c0p : Nat} {h0p : n0p ≤ c0p} {A1p : Option Addr} {n1p c1p : Nat} {h1p : n1p ≤ c1p} {A0q : Option Addr} {n0q c0q : Nat} {h0q : n0q ≤ c0q} {A1q : Option Addr} {n1q c1q : Nat} {h1q : n1q ≤ c1q}
theorem LawSL.flat (h : LawSL W x0 x1 A0a n0a c0a h0a A1a n1a c1a h1a y0 y1 A0b n0b c0b h0b A1b n1b c1b h1b w) : FlatSL W x0 x1 A0a n0a c0a h0a A1a n1a c1a h1a y0 y1 A0b n0b c0b h0b A1b n1b c1b h1b w := ⟨⟨⟨h.1.cell 0, h.1.cell 1⟩, ⟨h.2.1.cell 0, h.2.1.cell 1⟩⟩, h⟩
theorem LawSL.grow (h : LawSL W x0 x1 A0a n0a c0a h0a A1a n1a c1a h1a y0 y1 A0b n0b c0b h0b A1b n1b c1b h1b w) (hb : Below w.heap.size w w') : LawSL W x0 x1 A0a n0a c0a h0a A1a n1a c1a h1a y0 y1 A0b n0b c0b h0b A1b n1b c1b h1b w' := LawS.grow h hb
theorem LawTL.flat (h : LawTL W p q x0 x1 A0a n0a c0a h0a A1a n1a c1a h1a y0 y1 A0b n0b c0b h0b A1b n1b c1b h1b A0p n0p c0p h0p A1p n1p c1p h1p A0q n0q c0q h0q A1q n1q c1q h1q w) : FlatTL W p q x0 x1 A0a n0a c0a h0a A1a n1a c1a h1a y0 y1 A0b n0b c0b h0b A1b n1b c1b h1b A0p n0p c0p h0p A1p n1p c1p h1p A0q n0q c0q h0q A1q n1q c1q h1q w := ⟨⟨⟨h.1.1.cell 0, h.1.1.cell 1⟩, ⟨h.1.2.1.cell 0, h.1.2.1.cell 1⟩⟩, ⟨⟨h.2.1.cell 0, h.2.1.cell 1⟩, ⟨h.2.2.1.cell 0, h.2.2.1.cell 1⟩⟩, h⟩
theorem LawTL.grow (h : LawTL W p q x0 x1 A0a n0a c0a h0a A1a n1a c1a h1a y0 y1 A0b n0b c0b h0b A1b n1b c1b h1b A0p n0p c0p h0p A1p n1p c1p h1p A0q n0q c0q h0q A1q n1q c1q h1q w) (hb : Below w.heap.size w w') : LawTL W p q x0 x1 A0a n0a c0a h0a A1a n1a c1a h1a y0 y1 A0b n0b c0b h0b A1b n1b c1b h1b A0p n0p c0p h0p A1p n1p c1p h1p A0q n0q c0q h0q A1q n1q c1q h1q w' := LawT.grow h hb
end

set_option maxHeartbeats 4000000 in
set_option maxRecDepth 100000 in
theorem walk_FnExactSamePatternCode (x : Pc) (l : PcLay) (y : Pc) (l' : PcLay) (W : World) (ha : PcV W W.heap.size x l) (hb : PcV W W.heap.size y l') :
    Calls Try.prog 3 #[x.ag l, y.ag l'] W fun e w' => e = .returned (.bool true) ∧ Below W.heap.size W w' := by
  obtain ⟨x0, x1⟩ := x
  obtain ⟨y0, y1⟩ := y
  obtain ⟨A0a, n0a, c0a, h0a, A1a, n1a, c1a, h1a⟩ := l
  obtain ⟨A0b, n0b, c0b, h0b, A1b, n1b, c1b, h1b⟩ := l'
  have HA := Lib.hid ha
  have HB := Lib.hid hb
  have HC := Lib.hid (two_new W 25 #[.slice A0a n0a c0a, .slice A1a n1a c1a] #[.slice A0b n0b c0b, .slice A1b n1b c1b])
  clear ha hb
  show Calls Try.prog 3 #[.agg #[.slice A0a n0a c0a, .slice A1a n1a c1a], .agg #[.slice A0b n0b c0b, .slice A1b n1b c1b]] W _
  by_cases c1 : (szPc1 ⟨x0, x1⟩ : Int) ≤ 1048576
  · have C1 := Lib.hid c1
    have hs1 := small_Pc1 c1
    by_cases c2 : (szPc1 ⟨y0, y1⟩ : Int) ≤ 1048576 - (szPc1 ⟨x0, x1⟩ : Int)
    · have C2 := Lib.hid c2
      have hs2 := small_Pc1 (show (szPc1 ⟨y0, y1⟩ : Int) ≤ 1048576 by omega)
      have TA := Lib.hid (fun (w : World) (h : LawSL W x0 x1 A0a n0a c0a h0a A1a n1a c1a h1a y0 y1 A0b n0b c0b h0b A1b n1b c1b h1b w) => toPatternCode_any ⟨x0, x1⟩ ⟨A0a, n0a, c0a, h0a, A1a, n1a, c1a, h1a⟩ w (HA.out.go h.2.2) hs1)
      have TB := Lib.hid (fun (w : World) (h : LawSL W x0 x1 A0a n0a c0a h0a A1a n1a c1a h1a y0 y1 A0b n0b c0b h0b A1b n1b c1b h1b w) => toPatternCode_any ⟨y0, y1⟩ ⟨A0b, n0b, c0b, h0b, A1b, n1b, c1b, h1b⟩ w (HB.out.go h.2.2) hs2)
      clear c1 c2 hs1 hs2
      obtain ⟨P, hP⟩ : ∃ P, tt ((⟨x0, x1⟩ : Pc) = ⟨y0, y1⟩) = P := ⟨_, rfl⟩
      have HP := Lib.hid hP
      clear hP
      have tk1 : True := trivial
      go_enter Try.func3, Try.ntmps3
      go_wp2_with (go_at_call 7; obtain ⟨g0, g1, g2, g3⟩ := HC.out _ rfl; have HQ := szPatternCode_any ⟨x0, x1⟩ ⟨A0a, n0a, c0a, h0a, A1a, n1a, c1a, h1a⟩ 1048576 _ (HA.out.go g2) (by decide) (by decide); refine Calls.mono HQ ?_; clear HQ; intro e w1 h; obtain ⟨z1, rfl, hz1, l1, u1, hb⟩ := h.fits C1.out (by decide); have Z1 := Lib.hid hz1; have d1 : decide (z1 < 0) = false := (by simp; omega); have L1 := Lib.hid l1; have U1 := Lib.hid u1; have HS1 : Hid (LawSL W x0 x1 A0a n0a c0a h0a A1a n1a c1a h1a y0 y1 A0b n0b c0b h0b A1b n1b c1b h1b w1) := ⟨g0.below hb (by omega), g1.below hb (by omega), g2.trans (hb.mono g2.size)⟩; have p0 : w1.cell? ⟨W.heap.size + 1, 0, none⟩ = some (.slice A0b n0b c0b) := HS1.out.2.1.cell 0; have p1 : w1.cell? ⟨W.heap.size + 1, 1, none⟩ = some (.slice A1b n1b c1b) := HS1.out.2.1.cell 1; clear g0 g1 g2 g3 h hb hz1 HC)
      go_wp2_with (go_at_call 7; have HQ := szPatternCode_any ⟨y0, y1⟩ ⟨A0b, n0b, c0b, h0b, A1b, n1b, c1b, h1b⟩ z1 w1 (HB.out.go HS1.out.2.2) L1.out U1.out; refine Calls.mono HQ ?_; clear HQ; intro e w2 h; obtain ⟨z2, rfl, hz2, l2, u2, hb⟩ := h.fits (by have := C2.out; have := Z1.out; omega) U1.out; have d2 : decide (z2 < 0) = false := (by simp; omega); have HS2 : Hid (LawSL W x0 x1 A0a n0a c0a h0a A1a n1a c1a h1a y0 y1 A0b n0b c0b h0b A1b n1b c1b h1b w2) := HS1.out.grow hb; clear h hb hz2 p0 p1 HS1)
      have H0 := Lib.hid (HS2.out.grow (Below.refl _ _).drew)
      have tk2 : True := trivial
      go_region_held3 (fun w => FlatSL W x0 x1 A0a n0a c0a h0a A1a n1a c1a h1a y0 y1 A0b n0b c0b h0b A1b n1b c1b h1b w)
        (first | exact H0.out.flat | exact HS3.out.flat | exact HS4.out.flat | exact HS5.out.flat | go_keep)
        ((first
          | (go_at_call 9; have tk := tk1; have HQ := TA.out _ H0.out; refine Calls.mono HQ ?_; clear HQ; rintro e w3 ⟨⟨A0m, n0m, c0m, h0m, A1m, n1m, c1m, h1m⟩, he, h⟩; obtain rfl : e = .returned (.agg #[.slice A0m n0m c0m, .slice A1m n1m c1m]) := he; obtain ⟨hv, hb, hq⟩ := h.out; clear hq; have HVA := Lib.hid hv; have HS3 := Lib.hid (H0.out.grow hb); clear h hv hb tk tk1)
          | (go_at_call 9; have tk := tk2; have HQ := TB.out _ HS3.out; refine Calls.mono HQ ?_; clear HQ; rintro e w4 ⟨⟨A0n, n0n, c0n, h0n, A1n, n1n, c1n, h1n⟩, he, h⟩; obtain rfl : e = .returned (.agg #[.slice A0n n0n c0n, .slice A1n n1n c1n]) := he; obtain ⟨hv, hb, hq⟩ := h.out; clear hq; have HVB := Lib.hid hv; have HBB := Lib.hid hb; have HS4 := Lib.hid (HS3.out.grow hb); clear h hv hb tk tk2)
          | (go_at_call 8; have HQ := spec_SamePatternCode_any ⟨x0, x1⟩ ⟨y0, y1⟩ ⟨A0m, n0m, c0m, h0m, A1m, n1m, c1m, h1m⟩ ⟨A0n, n0n, c0n, h0n, A1n, n1n, c1n, h1n⟩ _ (HVA.out.go HBB.out) HVB.out; refine Calls.mono HQ ?_; clear HQ; rintro e w5 ⟨rfl, hb⟩; rw [HP.out]; have HS5 := Lib.hid (HS4.out.grow hb); clear hb)))
      have p0 : w5.cell? ⟨W.heap.size, 0, none⟩ = some (.slice A0a n0a c0a) := HS5.out.1.cell 0; have p1 : w5.cell? ⟨W.heap.size, 1, none⟩ = some (.slice A1a n1a c1a) := HS5.out.1.cell 1
      clear HVA HVB HBB HS2 H0 HS3 HS4
      go_split_ands
      have tk1 : True := trivial
      have tk2 : True := trivial
      go_wp2_with (first
        | (go_at_call 9; have tk := tk1; have HQ := TA.out _ HS5.out; refine Calls.mono HQ ?_; clear HQ; rintro e w6 ⟨⟨A0p, n0p, c0p, h0p, A1p, n1p, c1p, h1p⟩, he, h⟩; obtain rfl : e = .returned (.agg #[.slice A0p n0p c0p, .slice A1p n1p c1p]) := he; obtain ⟨hv, hb, hq⟩ := h.out; clear hq; have HV6 := Lib.hid hv; have HS6 := Lib.hid (HS5.out.grow hb); have HX7 := Lib.hid (fun (cs : Array Value) (T : TypeId) => HS6.out.grow (below_alloc w6 (.cells cs T))); have q0 : w6.cell? ⟨W.heap.size + 1, 0, none⟩ = some (.slice A0b n0b c0b) := HS6.out.2.1.cell 0; have q1 : w6.cell? ⟨W.heap.size + 1, 1, none⟩ = some (.slice A1b n1b c1b) := HS6.out.2.1.cell 1; have L6 := HS6.out.2.1.lt; clear h hv hb p0 p1 tk tk1)
        | (go_at_call 9; have tk := tk2; have hx7 := HX7.out #[.slice A0p n0p c0p, .slice A1p n1p c1p] 31; have HQ := TB.out _ hx7; refine Calls.mono HQ ?_; clear HQ; rintro e w7 ⟨⟨A0q, n0q, c0q, h0q, A1q, n1q, c1q, h1q⟩, he, h⟩; obtain rfl : e = .returned (.agg #[.slice A0q n0q c0q, .slice A1q n1q c1q]) := he; obtain ⟨hv, hb, hq⟩ := h.out; clear hq; have hl6 : w6.heap.size < w7.heap.size := Nat.lt_of_lt_of_le (lt_alloc _ _) hb.size; have hz7 : PcV w7 w7.heap.size ⟨x0, x1⟩ ⟨A0p, n0p, c0p, h0p, A1p, n1p, c1p, h1p⟩ := (HV6.out.go (below_alloc w6 (.cells #[.slice A0p n0p c0p, .slice A1p n1p c1p] 31))).go hb; have HR7 := Lib.hid ((RW.new w6 #[.slice A0p n0p c0p, .slice A1p n1p c1p] 31).below hb (lt_alloc _ _)); have HT8 : Hid (LawTL W w6.heap.size w7.heap.size x0 x1 A0a n0a c0a h0a A1a n1a c1a h1a y0 y1 A0b n0b c0b h0b A1b n1b c1b h1b A0p n0p c0p h0p A1p n1p c1p h1p A0q n0q c0q h0q A1q n1q c1q h1q (w7.alloc (.cells #[.slice A0q n0q c0q, .slice A1q n1q c1q] 31))) := ⟨(hx7.grow hb).grow (below_alloc _ _), HR7.out.alloc _, RW.new w7 _ _, hz7.go (below_alloc _ _), hv.go (below_alloc _ _)⟩; have r0 : w7.cell? ⟨w6.heap.size, 0, none⟩ = some (.slice A0p n0p c0p) := HR7.out.cell 0; have r1 : w7.cell? ⟨w6.heap.size, 1, none⟩ = some (.slice A1p n1p c1p) := HR7.out.cell 1; clear h hv hb q0 q1 hx7 HX7 HS6 tk tk2)
        | (go_at_call 10; have HQ := impl_SamePatternCode_any ⟨x0, x1⟩ ⟨y0, y1⟩ ⟨A0p, n0p, c0p, h0p, A1p, n1p, c1p, h1p⟩ ⟨A0q, n0q, c0q, h0q, A1q, n1q, c1q, h1q⟩ _ HT8.out.2.2.2.1 HT8.out.2.2.2.2; refine Calls.mono HQ ?_; clear HQ; rintro e w9 ⟨rfl, hb⟩; rw [HP.out]; have HT9 := Lib.hid (HT8.out.grow hb); clear hb r0 r1 HT8 L6 hl6))
      have H9 := Lib.hid (HT9.out.grow (Below.refl _ _).drew)
      go_region_held3 (fun w => FlatTL W w6.heap.size w7.heap.size x0 x1 A0a n0a c0a h0a A1a n1a c1a h1a y0 y1 A0b n0b c0b h0b A1b n1b c1b h1b A0p n0p c0p h0p A1p n1p c1p h1p A0q n0q c0q h0q A1q n1q c1q h1q w)
        (first | exact H9.out.flat | exact HT10.out.flat | exact HT11.out.flat | go_keep)
        ((first
          | (go_at_call 9; have HQ := TA.out _ H9.out.1; refine Calls.mono HQ ?_; clear HQ; rintro e w10 ⟨⟨A0u, n0u, c0u, h0u, A1u, n1u, c1u, h1u⟩, he, h⟩; obtain rfl : e = .returned (.agg #[.slice A0u n0u c0u, .slice A1u n1u c1u]) := he; obtain ⟨hv, hb, hq⟩ := h.out; clear hq; have HVC := Lib.hid hv; have HT10 := Lib.hid (H9.out.grow hb); clear h hv hb)
          | (go_at_call 11; have HQ := eqPatternCode_same ⟨x0, x1⟩ ⟨A0p, n0p, c0p, h0p, A1p, n1p, c1p, h1p⟩ ⟨A0u, n0u, c0u, h0u, A1u, n1u, c1u, h1u⟩ _ HT10.out.2.2.2.1 HVC.out; refine Calls.mono HQ ?_; clear HQ; rintro e w11 ⟨rfl, hb⟩; have HT11 := Lib.hid (HT10.out.grow hb); clear hb)))
      clear H9 HT10 HT9
      go_split_ands
      go_wp2_with fail
      have H11 := Lib.hid (HT11.out.grow (Below.refl _ _).drew)
      go_region_held3 (fun w => FlatTL W w6.heap.size w7.heap.size x0 x1 A0a n0a c0a h0a A1a n1a c1a h1a y0 y1 A0b n0b c0b h0b A1b n1b c1b h1b A0p n0p c0p h0p A1p n1p c1p h1p A0q n0q c0q h0q A1q n1q c1q h1q w)
        (first | exact H11.out.flat | exact HT12.out.flat | exact HT13.out.flat | go_keep)
        ((first
          | (go_at_call 9; have HQ := TB.out _ H11.out.1; refine Calls.mono HQ ?_; clear HQ; rintro e w12 ⟨⟨A0v, n0v, c0v, h0v, A1v, n1v, c1v, h1v⟩, he, h⟩; obtain rfl : e = .returned (.agg #[.slice A0v n0v c0v, .slice A1v n1v c1v]) := he; obtain ⟨hv, hb, hq⟩ := h.out; clear hq; have HVD := Lib.hid hv; have HT12 := Lib.hid (H11.out.grow hb); clear h hv hb)
          | (go_at_call 11; have HQ := eqPatternCode_same ⟨y0, y1⟩ ⟨A0q, n0q, c0q, h0q, A1q, n1q, c1q, h1q⟩ ⟨A0v, n0v, c0v, h0v, A1v, n1v, c1v, h1v⟩ _ HT12.out.2.2.2.2 HVD.out; refine Calls.mono HQ ?_; clear HQ; rintro e w13 ⟨rfl, hb⟩; have HT13 := Lib.hid (HT12.out.grow hb); clear hb)))
      clear H11 HT12 HT11
      go_split_ands
      go_wp2_with fail
      go_ret
      exact ⟨rfl, HT13.out.1.2.2⟩
    · have C2 := Lib.hid c2
      go_enter Try.func3, Try.ntmps3
      go_wp2_with (go_at_call 7; obtain ⟨g0, g1, g2, g3⟩ := HC.out _ rfl; have HQ := szPatternCode_any ⟨x0, x1⟩ ⟨A0a, n0a, c0a, h0a, A1a, n1a, c1a, h1a⟩ 1048576 _ (HA.out.go g2) (by decide) (by decide); refine Calls.mono HQ ?_; clear HQ; intro e w1 h; obtain ⟨z1, rfl, hz1, l1, u1, hb⟩ := h.fits C1.out (by decide); have Z1 := Lib.hid hz1; have d1 : decide (z1 < 0) = false := (by simp; omega); have L1 := Lib.hid l1; have U1 := Lib.hid u1; have HS1 : Hid (LawSL W x0 x1 A0a n0a c0a h0a A1a n1a c1a h1a y0 y1 A0b n0b c0b h0b A1b n1b c1b h1b w1) := ⟨g0.below hb (by omega), g1.below hb (by omega), g2.trans (hb.mono g2.size)⟩; have p0 : w1.cell? ⟨W.heap.size + 1, 0, none⟩ = some (.slice A0b n0b c0b) := HS1.out.2.1.cell 0; have p1 : w1.cell? ⟨W.heap.size + 1, 1, none⟩ = some (.slice A1b n1b c1b) := HS1.out.2.1.cell 1; clear g0 g1 g2 g3 h hb hz1 HC)
      go_wp2_with (go_at_call 7; have HQ := szPatternCode_any ⟨y0, y1⟩ ⟨A0b, n0b, c0b, h0b, A1b, n1b, c1b, h1b⟩ z1 w1 (HB.out.go HS1.out.2.2) L1.out U1.out; refine Calls.mono HQ ?_; clear HQ; intro e w2 h; obtain ⟨rfl, hb⟩ := h.long (by have := C2.out; have := Z1.out; omega); have HS2 : Hid (LawSL W x0 x1 A0a n0a c0a h0a A1a n1a c1a h1a y0 y1 A0b n0b c0b h0b A1b n1b c1b h1b w2) := HS1.out.grow hb; clear h hb p0 p1 HS1)
      go_ret
      exact ⟨rfl, HS2.out.2.2⟩
  · have C1 := Lib.hid c1
    go_enter Try.func3, Try.ntmps3
    go_wp2_with (go_at_call 7; obtain ⟨g0, g1, g2, g3⟩ := HC.out _ rfl; have HQ := szPatternCode_any ⟨x0, x1⟩ ⟨A0a, n0a, c0a, h0a, A1a, n1a, c1a, h1a⟩ 1048576 _ (HA.out.go g2) (by decide) (by decide); refine Calls.mono HQ ?_; clear HQ; intro e w1 h; obtain ⟨rfl, hb⟩ := h.long C1.out; have HB1 := Lib.hid (g2.trans (hb.mono g2.size)); clear g0 g1 g2 g3 h hb HC)
    go_ret
    exact ⟨rfl, HB1.out⟩
end Go.Proofs.Ytpmbalodbjfjbaa
