/- The law's walk: FnExactSamePattern. No condition. -/
import Derived.Test.YtbaadphgbhaboaaPtLw
namespace Go.Proofs.Ytbaadphgbhaboaa
open Go Go.RowKit

def LawPS (W : World) (ra rb : Array Value) (w : World) : Prop := RW 24 w W.heap.size ra ∧ RW 24 w (W.heap.size + 1) rb ∧ Below W.heap.size W w
theorem LawPS.grow {W w w' : World} {ra rb : Array Value} (h : LawPS W ra rb w) (hb : Below w.heap.size w w') : LawPS W ra rb w' :=
  ⟨h.1.below hb h.1.lt, h.2.1.below hb h.2.1.lt, h.2.2.trans (hb.mono h.2.2.size)⟩
/-- .. and the two copies in blocks p, q. -/
def LawPT (W : World) (ra rb : Array Value) (p q : Nat) (pa pb : Array Value) (x y : Pt) (l l' : PtLay) (w : World) : Prop :=
  LawPS W ra rb w ∧ RW 29 w p pa ∧ RW 29 w q pb ∧ PtX w w.heap.size x l ∧ PtX w w.heap.size y l'
theorem LawPT.grow {W w w' : World} {ra rb pa pb : Array Value} {p q : Nat} {x y : Pt} {l l' : PtLay} (h : LawPT W ra rb p q pa pb x y l l' w) (hb : Below w.heap.size w w') : LawPT W ra rb p q pa pb x y l l' w' :=
  ⟨h.1.grow hb, h.2.1.below hb h.2.1.lt, h.2.2.1.below hb h.2.2.1.lt, h.2.2.2.1.go hb, h.2.2.2.2.go hb⟩

def LawPSL (W : World) (x0 : Int) (x1 : Int) (x2 : ByteArray) (x3 : List Pt) (A3a : Option Addr) (n3a c3a : Nat) (y0 : Int) (y1 : Int) (y2 : ByteArray) (y3 : List Pt) (A3b : Option Addr) (n3b c3b : Nat) (w : World) : Prop := LawPS W #[.int .i64 x0, .int .i64 x1, .string x2, .slice A3a n3a c3a] #[.int .i64 y0, .int .i64 y1, .string y2, .slice A3b n3b c3b] w
def LawPTL (W : World) (p q : Nat) (x0 : Int) (x1 : Int) (x2 : ByteArray) (x3 : List Pt) (A3a : Option Addr) (n3a c3a : Nat) (y0 : Int) (y1 : Int) (y2 : ByteArray) (y3 : List Pt) (A3b : Option Addr) (n3b c3b : Nat) (A3p : Option Addr) (n3p c3p : Nat) (A3q : Option Addr) (n3q c3q : Nat) (w : World) : Prop := LawPT W #[.int .i64 x0, .int .i64 x1, .string x2, .slice A3a n3a c3a] #[.int .i64 y0, .int .i64 y1, .string y2, .slice A3b n3b c3b] p q #[.int .i64 x0, .int .i64 x1, .string x2, .slice A3p n3p c3p] #[.int .i64 y0, .int .i64 y1, .string y2, .slice A3q n3q c3q] ⟨x0, x1, x2, x3⟩ ⟨y0, y1, y2, y3⟩ ⟨A3p, n3p, c3p⟩ ⟨A3q, n3q, c3q⟩ w
abbrev FlatPSL (W : World) (x0 : Int) (x1 : Int) (x2 : ByteArray) (x3 : List Pt) (A3a : Option Addr) (n3a c3a : Nat) (y0 : Int) (y1 : Int) (y2 : ByteArray) (y3 : List Pt) (A3b : Option Addr) (n3b c3b : Nat) (w : World) : Prop := ((w.cell? ⟨W.heap.size, 0, none⟩ = some (.int .i64 x0) ∧ w.cell? ⟨W.heap.size, 1, none⟩ = some (.int .i64 x1) ∧ w.cell? ⟨W.heap.size, 2, none⟩ = some (.string x2) ∧ w.cell? ⟨W.heap.size, 3, none⟩ = some (.slice A3a n3a c3a)) ∧ (w.cell? ⟨W.heap.size + 1, 0, none⟩ = some (.int .i64 y0) ∧ w.cell? ⟨W.heap.size + 1, 1, none⟩ = some (.int .i64 y1) ∧ w.cell? ⟨W.heap.size + 1, 2, none⟩ = some (.string y2) ∧ w.cell? ⟨W.heap.size + 1, 3, none⟩ = some (.slice A3b n3b c3b))) ∧ LawPSL W x0 x1 x2 x3 A3a n3a c3a y0 y1 y2 y3 A3b n3b c3b w
abbrev FlatPTL (W : World) (p q : Nat) (x0 : Int) (x1 : Int) (x2 : ByteArray) (x3 : List Pt) (A3a : Option Addr) (n3a c3a : Nat) (y0 : Int) (y1 : Int) (y2 : ByteArray) (y3 : List Pt) (A3b : Option Addr) (n3b c3b : Nat) (A3p : Option Addr) (n3p c3p : Nat) (A3q : Option Addr) (n3q c3q : Nat) (w : World) : Prop := ((w.cell? ⟨W.heap.size, 0, none⟩ = some (.int .i64 x0) ∧ w.cell? ⟨W.heap.size, 1, none⟩ = some (.int .i64 x1) ∧ w.cell? ⟨W.heap.size, 2, none⟩ = some (.string x2) ∧ w.cell? ⟨W.heap.size, 3, none⟩ = some (.slice A3a n3a c3a)) ∧ (w.cell? ⟨W.heap.size + 1, 0, none⟩ = some (.int .i64 y0) ∧ w.cell? ⟨W.heap.size + 1, 1, none⟩ = some (.int .i64 y1) ∧ w.cell? ⟨W.heap.size + 1, 2, none⟩ = some (.string y2) ∧ w.cell? ⟨W.heap.size + 1, 3, none⟩ = some (.slice A3b n3b c3b))) ∧ ((w.cell? ⟨p, 0, none⟩ = some (.int .i64 x0) ∧ w.cell? ⟨p, 1, none⟩ = some (.int .i64 x1) ∧ w.cell? ⟨p, 2, none⟩ = some (.string x2) ∧ w.cell? ⟨p, 3, none⟩ = some (.slice A3p n3p c3p)) ∧ (w.cell? ⟨q, 0, none⟩ = some (.int .i64 y0) ∧ w.cell? ⟨q, 1, none⟩ = some (.int .i64 y1) ∧ w.cell? ⟨q, 2, none⟩ = some (.string y2) ∧ w.cell? ⟨q, 3, none⟩ = some (.slice A3q n3q c3q))) ∧ LawPTL W p q x0 x1 x2 x3 A3a n3a c3a y0 y1 y2 y3 A3b n3b c3b A3p n3p c3p A3q n3q c3q w
section
variable {W w w' : World} {p q : Nat} {x0 : Int} {x1 : Int} {x2 : ByteArray} {x3 : List Pt} {A3a : Option Addr} {n3a c3a : Nat} {y0 : Int} {y1 : Int} {y2 : ByteArray} {y3 : List Pt} {A3b : Option Addr} {n3b c3b : Nat} {A3p : Option Addr} {n3p c3p : Nat} {A3q : Option Addr} {n3q c3q : Nat}
theorem LawPSL.flat (h : LawPSL W x0 x1 x2 x3 A3a n3a c3a y0 y1 y2 y3 A3b n3b c3b w) : FlatPSL W x0 x1 x2 x3 A3a n3a c3a y0 y1 y2 y3 A3b n3b c3b w := ⟨⟨⟨h.1.cell 0, h.1.cell 1, h.1.cell 2, h.1.cell 3⟩, ⟨h.2.1.cell 0, h.2.1.cell 1, h.2.1.cell 2, h.2.1.cell 3⟩⟩, h⟩
theorem LawPSL.grow (h : LawPSL W x0 x1 x2 x3 A3a n3a c3a y0 y1 y2 y3 A3b n3b c3b w) (hb : Below w.heap.size w w') : LawPSL W x0 x1 x2 x3 A3a n3a c3a y0 y1 y2 y3 A3b n3b c3b w' := LawPS.grow h hb
theorem LawPTL.flat (h : LawPTL W p q x0 x1 x2 x3 A3a n3a c3a y0 y1 y2 y3 A3b n3b c3b A3p n3p c3p A3q n3q c3q w) : FlatPTL W p q x0 x1 x2 x3 A3a n3a c3a y0 y1 y2 y3 A3b n3b c3b A3p n3p c3p A3q n3q c3q w := ⟨⟨⟨h.1.1.cell 0, h.1.1.cell 1, h.1.1.cell 2, h.1.1.cell 3⟩, ⟨h.1.2.1.cell 0, h.1.2.1.cell 1, h.1.2.1.cell 2, h.1.2.1.cell 3⟩⟩, ⟨⟨h.2.1.cell 0, h.2.1.cell 1, h.2.1.cell 2, h.2.1.cell 3⟩, ⟨h.2.2.1.cell 0, h.2.2.1.cell 1, h.2.2.1.cell 2, h.2.2.1.cell 3⟩⟩, h⟩
theorem LawPTL.grow (h : LawPTL W p q x0 x1 x2 x3 A3a n3a c3a y0 y1 y2 y3 A3b n3b c3b A3p n3p c3p A3q n3q c3q w) (hb : Below w.heap.size w w') : LawPTL W p q x0 x1 x2 x3 A3a n3a c3a y0 y1 y2 y3 A3b n3b c3b A3p n3p c3p A3q n3q c3q w' := LawPT.grow h hb
end

set_option maxHeartbeats 4000000 in
set_option maxRecDepth 100000 in
theorem walkL_FnExactSamePattern (x : Pt) (l : PtLay) (y : Pt) (l' : PtLay) (W : World) (ha : PtW W W.heap.size x l) (hb : PtW W W.heap.size y l') :
    Calls Try.prog 3 #[x.agl l, y.agl l'] W fun e w' => e = .returned (.bool true) ∧ Below W.heap.size W w' := by
  obtain ⟨x0, x1, x2, x3⟩ := x
  obtain ⟨y0, y1, y2, y3⟩ := y
  obtain ⟨A3a, n3a, c3a⟩ := l
  obtain ⟨A3b, n3b, c3b⟩ := l'
  have HA := Lib.hid ha
  have HB := Lib.hid hb
  have HC := Lib.hid (two_new W 24 #[.int .i64 x0, .int .i64 x1, .string x2, .slice A3a n3a c3a] #[.int .i64 y0, .int .i64 y1, .string y2, .slice A3b n3b c3b])
  clear ha hb
  show Calls Try.prog 3 #[.agg #[.int .i64 x0, .int .i64 x1, .string x2, .slice A3a n3a c3a], .agg #[.int .i64 y0, .int .i64 y1, .string y2, .slice A3b n3b c3b]] W _
  by_cases c1 : (szPt1 ⟨x0, x1, x2, x3⟩ : Int) ≤ 1048576
  · have C1 := Lib.hid c1
    have hs1 := small_Pt1 c1
    by_cases c2 : (szPt1 ⟨y0, y1, y2, y3⟩ : Int) ≤ 1048576 - (szPt1 ⟨x0, x1, x2, x3⟩ : Int)
    · have C2 := Lib.hid c2
      have hs2 := small_Pt1 (show (szPt1 ⟨y0, y1, y2, y3⟩ : Int) ≤ 1048576 by omega)
      have TA := Lib.hid (fun (w : World) (h : LawPSL W x0 x1 x2 x3 A3a n3a c3a y0 y1 y2 y3 A3b n3b c3b w) => toPattern_l ⟨x0, x1, x2, x3⟩ ⟨A3a, n3a, c3a⟩ w (HA.out.go h.2.2) hs1)
      have TB := Lib.hid (fun (w : World) (h : LawPSL W x0 x1 x2 x3 A3a n3a c3a y0 y1 y2 y3 A3b n3b c3b w) => toPattern_l ⟨y0, y1, y2, y3⟩ ⟨A3b, n3b, c3b⟩ w (HB.out.go h.2.2) hs2)
      have HSX1 := Lib.hid hs1
      clear c1 c2 hs1 hs2
      obtain ⟨P, hP⟩ : ∃ P, tt ((⟨x0, x1, x2, x3⟩ : Pt) = ⟨y0, y1, y2, y3⟩) = P := ⟨_, rfl⟩
      have HP := Lib.hid hP
      clear hP
      have tk1 : True := trivial
      go_enter Try.func3, Try.ntmps3
      go_wp2_with (go_at_call 9; obtain ⟨g0, g1, g2, g3⟩ := HC.out _ rfl; have HQ := szPattern_l ⟨x0, x1, x2, x3⟩ ⟨A3a, n3a, c3a⟩ 1048576 _ (HA.out.go g2) (by decide) (by decide); refine Calls.mono HQ ?_; clear HQ; intro e w1 h; obtain ⟨z1, rfl, hz1, l1, u1, hb⟩ := h.fits C1.out (by decide); have Z1 := Lib.hid hz1; have d1 : decide (z1 < 0) = false := (by simp; omega); have L1 := Lib.hid l1; have U1 := Lib.hid u1; have HS1 : Hid (LawPSL W x0 x1 x2 x3 A3a n3a c3a y0 y1 y2 y3 A3b n3b c3b w1) := ⟨g0.below hb (by omega), g1.below hb (by omega), g2.trans (hb.mono g2.size)⟩; have p0 : w1.cell? ⟨W.heap.size + 1, 0, none⟩ = some (.int .i64 y0) := HS1.out.2.1.cell 0; have p1 : w1.cell? ⟨W.heap.size + 1, 1, none⟩ = some (.int .i64 y1) := HS1.out.2.1.cell 1; have p2 : w1.cell? ⟨W.heap.size + 1, 2, none⟩ = some (.string y2) := HS1.out.2.1.cell 2; have p3 : w1.cell? ⟨W.heap.size + 1, 3, none⟩ = some (.slice A3b n3b c3b) := HS1.out.2.1.cell 3; clear g0 g1 g2 g3 h hb hz1 HC)
      go_wp2_with (go_at_call 9; have HQ := szPattern_l ⟨y0, y1, y2, y3⟩ ⟨A3b, n3b, c3b⟩ z1 w1 (HB.out.go HS1.out.2.2) L1.out U1.out; refine Calls.mono HQ ?_; clear HQ; intro e w2 h; obtain ⟨z2, rfl, hz2, l2, u2, hb⟩ := h.fits (by have := C2.out; have := Z1.out; omega) U1.out; have d2 : decide (z2 < 0) = false := (by simp; omega); have HS2 : Hid (LawPSL W x0 x1 x2 x3 A3a n3a c3a y0 y1 y2 y3 A3b n3b c3b w2) := HS1.out.grow hb; clear h hb hz2 p0 p1 p2 p3 HS1)
      have H0 := Lib.hid (HS2.out.grow (Below.refl _ _).drew)
      have tk2 : True := trivial
      go_region_held3 (fun w => FlatPSL W x0 x1 x2 x3 A3a n3a c3a y0 y1 y2 y3 A3b n3b c3b w)
        (first | exact H0.out.flat | exact HS3.out.flat | exact HS4.out.flat | exact HS5.out.flat | go_keep)
        ((first
          | (go_at_call 11; have tk := tk1; have HQ := TA.out _ H0.out; refine Calls.mono HQ ?_; clear HQ; rintro e w3 ⟨⟨A3m, n3m, c3m⟩, he, h⟩; obtain rfl : e = .returned (.agg #[.int .i64 x0, .int .i64 x1, .string x2, .slice A3m n3m c3m]) := he; obtain ⟨hv, hb, hq⟩ := h.out; clear hq; have HVA := Lib.hid hv; have HS3 := Lib.hid (H0.out.grow hb); clear h hv hb tk tk1)
          | (go_at_call 11; have tk := tk2; have HQ := TB.out _ HS3.out; refine Calls.mono HQ ?_; clear HQ; rintro e w4 ⟨⟨A3n, n3n, c3n⟩, he, h⟩; obtain rfl : e = .returned (.agg #[.int .i64 y0, .int .i64 y1, .string y2, .slice A3n n3n c3n]) := he; obtain ⟨hv, hb, hq⟩ := h.out; clear hq; have HVB := Lib.hid hv; have HBB := Lib.hid hb; have HS4 := Lib.hid (HS3.out.grow hb); clear h hv hb tk tk2)
          | (go_at_call 10; have HQ := spec_SamePattern_l ⟨x0, x1, x2, x3⟩ ⟨y0, y1, y2, y3⟩ ⟨A3m, n3m, c3m⟩ ⟨A3n, n3n, c3n⟩ _ (HVA.out.go HBB.out) HVB.out; refine Calls.mono HQ ?_; clear HQ; rintro e w5 ⟨rfl, hb⟩; rw [HP.out]; have HS5 := Lib.hid (HS4.out.grow hb); clear hb)))
      have p0 : w5.cell? ⟨W.heap.size, 0, none⟩ = some (.int .i64 x0) := HS5.out.1.cell 0; have p1 : w5.cell? ⟨W.heap.size, 1, none⟩ = some (.int .i64 x1) := HS5.out.1.cell 1; have p2 : w5.cell? ⟨W.heap.size, 2, none⟩ = some (.string x2) := HS5.out.1.cell 2; have p3 : w5.cell? ⟨W.heap.size, 3, none⟩ = some (.slice A3a n3a c3a) := HS5.out.1.cell 3
      clear HVA HVB HBB HS2 H0 HS3 HS4
      go_split_ands
      have tk1 : True := trivial
      have tk2 : True := trivial
      go_wp2_with (first
        | (go_at_call 11; have tk := tk1; have HQ := TA.out _ HS5.out; refine Calls.mono HQ ?_; clear HQ; rintro e w6 ⟨⟨A3p, n3p, c3p⟩, he, h⟩; obtain rfl : e = .returned (.agg #[.int .i64 x0, .int .i64 x1, .string x2, .slice A3p n3p c3p]) := he; obtain ⟨hv, hb, hq⟩ := h.out; clear hq; have HV6 := Lib.hid hv; have HS6 := Lib.hid (HS5.out.grow hb); have HX7 := Lib.hid (fun (cs : Array Value) (T : TypeId) => HS6.out.grow (below_alloc w6 (.cells cs T))); have q0 : w6.cell? ⟨W.heap.size + 1, 0, none⟩ = some (.int .i64 y0) := HS6.out.2.1.cell 0; have q1 : w6.cell? ⟨W.heap.size + 1, 1, none⟩ = some (.int .i64 y1) := HS6.out.2.1.cell 1; have q2 : w6.cell? ⟨W.heap.size + 1, 2, none⟩ = some (.string y2) := HS6.out.2.1.cell 2; have q3 : w6.cell? ⟨W.heap.size + 1, 3, none⟩ = some (.slice A3b n3b c3b) := HS6.out.2.1.cell 3; have L6 := HS6.out.2.1.lt; clear h hv hb p0 p1 p2 p3 tk tk1)
        | (go_at_call 11; have tk := tk2; have hx7 := HX7.out #[.int .i64 x0, .int .i64 x1, .string x2, .slice A3p n3p c3p] 29; have HQ := TB.out _ hx7; refine Calls.mono HQ ?_; clear HQ; rintro e w7 ⟨⟨A3q, n3q, c3q⟩, he, h⟩; obtain rfl : e = .returned (.agg #[.int .i64 y0, .int .i64 y1, .string y2, .slice A3q n3q c3q]) := he; obtain ⟨hv, hb, hq⟩ := h.out; clear hq; have hl6 : w6.heap.size < w7.heap.size := Nat.lt_of_lt_of_le (lt_alloc _ _) hb.size; have hz7 : PtX w7 w7.heap.size ⟨x0, x1, x2, x3⟩ ⟨A3p, n3p, c3p⟩ := (HV6.out.go (below_alloc w6 (.cells #[.int .i64 x0, .int .i64 x1, .string x2, .slice A3p n3p c3p] 29))).go hb; have HR7 := Lib.hid ((RW.new w6 #[.int .i64 x0, .int .i64 x1, .string x2, .slice A3p n3p c3p] 29).below hb (lt_alloc _ _)); have HT8 : Hid (LawPTL W w6.heap.size w7.heap.size x0 x1 x2 x3 A3a n3a c3a y0 y1 y2 y3 A3b n3b c3b A3p n3p c3p A3q n3q c3q (w7.alloc (.cells #[.int .i64 y0, .int .i64 y1, .string y2, .slice A3q n3q c3q] 29))) := ⟨(hx7.grow hb).grow (below_alloc _ _), HR7.out.alloc _, RW.new w7 _ _, hz7.go (below_alloc _ _), hv.go (below_alloc _ _)⟩; have r0 : w7.cell? ⟨w6.heap.size, 0, none⟩ = some (.int .i64 x0) := HR7.out.cell 0; have r1 : w7.cell? ⟨w6.heap.size, 1, none⟩ = some (.int .i64 x1) := HR7.out.cell 1; have r2 : w7.cell? ⟨w6.heap.size, 2, none⟩ = some (.string x2) := HR7.out.cell 2; have r3 : w7.cell? ⟨w6.heap.size, 3, none⟩ = some (.slice A3p n3p c3p) := HR7.out.cell 3; clear h hv hb q0 q1 q2 q3 hx7 HX7 HS6 tk tk2)
        | (go_at_call 12; have HQ := impl_SamePattern_l ⟨x0, x1, x2, x3⟩ ⟨y0, y1, y2, y3⟩ ⟨A3p, n3p, c3p⟩ ⟨A3q, n3q, c3q⟩ _ HT8.out.2.2.2.1 HT8.out.2.2.2.2 HSX1.out; refine Calls.mono HQ ?_; clear HQ; rintro e w9 ⟨rfl, hb⟩; rw [HP.out]; have HT9 := Lib.hid (HT8.out.grow hb); clear hb r0 r1 r2 r3 HT8 L6 hl6))
      have H9 := Lib.hid (HT9.out.grow (Below.refl _ _).drew)
      go_region_held3 (fun w => FlatPTL W w6.heap.size w7.heap.size x0 x1 x2 x3 A3a n3a c3a y0 y1 y2 y3 A3b n3b c3b A3p n3p c3p A3q n3q c3q w)
        (first | exact H9.out.flat | exact HT10.out.flat | exact HT11.out.flat | go_keep)
        ((first
          | (go_at_call 11; have HQ := TA.out _ H9.out.1; refine Calls.mono HQ ?_; clear HQ; rintro e w10 ⟨⟨A3u, n3u, c3u⟩, he, h⟩; obtain rfl : e = .returned (.agg #[.int .i64 x0, .int .i64 x1, .string x2, .slice A3u n3u c3u]) := he; obtain ⟨hv, hb, hq⟩ := h.out; clear hq; have HVC := Lib.hid hv; have HT10 := Lib.hid (H9.out.grow hb); clear h hv hb)
          | (go_at_call 13; have HQ := eqPattern_l ⟨x0, x1, x2, x3⟩ ⟨A3p, n3p, c3p⟩ ⟨A3u, n3u, c3u⟩ _ HT10.out.2.2.2.1 HVC.out; refine Calls.mono HQ ?_; clear HQ; rintro e w11 ⟨rfl, hb⟩; have HT11 := Lib.hid (HT10.out.grow hb); clear hb)))
      clear H9 HT10 HT9
      go_split_ands
      go_wp2_with fail
      have H11 := Lib.hid (HT11.out.grow (Below.refl _ _).drew)
      go_region_held3 (fun w => FlatPTL W w6.heap.size w7.heap.size x0 x1 x2 x3 A3a n3a c3a y0 y1 y2 y3 A3b n3b c3b A3p n3p c3p A3q n3q c3q w)
        (first | exact H11.out.flat | exact HT12.out.flat | exact HT13.out.flat | go_keep)
        ((first
          | (go_at_call 11; have HQ := TB.out _ H11.out.1; refine Calls.mono HQ ?_; clear HQ; rintro e w12 ⟨⟨A3v, n3v, c3v⟩, he, h⟩; obtain rfl : e = .returned (.agg #[.int .i64 y0, .int .i64 y1, .string y2, .slice A3v n3v c3v]) := he; obtain ⟨hv, hb, hq⟩ := h.out; clear hq; have HVD := Lib.hid hv; have HT12 := Lib.hid (H11.out.grow hb); clear h hv hb)
          | (go_at_call 13; have HQ := eqPattern_l ⟨y0, y1, y2, y3⟩ ⟨A3q, n3q, c3q⟩ ⟨A3v, n3v, c3v⟩ _ HT12.out.2.2.2.2 HVD.out; refine Calls.mono HQ ?_; clear HQ; rintro e w13 ⟨rfl, hb⟩; have HT13 := Lib.hid (HT12.out.grow hb); clear hb)))
      clear H11 HT12 HT11
      go_split_ands
      go_wp2_with fail
      go_ret
      exact ⟨rfl, HT13.out.1.2.2⟩
    · have C2 := Lib.hid c2
      go_enter Try.func3, Try.ntmps3
      go_wp2_with (go_at_call 9; obtain ⟨g0, g1, g2, g3⟩ := HC.out _ rfl; have HQ := szPattern_l ⟨x0, x1, x2, x3⟩ ⟨A3a, n3a, c3a⟩ 1048576 _ (HA.out.go g2) (by decide) (by decide); refine Calls.mono HQ ?_; clear HQ; intro e w1 h; obtain ⟨z1, rfl, hz1, l1, u1, hb⟩ := h.fits C1.out (by decide); have Z1 := Lib.hid hz1; have d1 : decide (z1 < 0) = false := (by simp; omega); have L1 := Lib.hid l1; have U1 := Lib.hid u1; have HS1 : Hid (LawPSL W x0 x1 x2 x3 A3a n3a c3a y0 y1 y2 y3 A3b n3b c3b w1) := ⟨g0.below hb (by omega), g1.below hb (by omega), g2.trans (hb.mono g2.size)⟩; have p0 : w1.cell? ⟨W.heap.size + 1, 0, none⟩ = some (.int .i64 y0) := HS1.out.2.1.cell 0; have p1 : w1.cell? ⟨W.heap.size + 1, 1, none⟩ = some (.int .i64 y1) := HS1.out.2.1.cell 1; have p2 : w1.cell? ⟨W.heap.size + 1, 2, none⟩ = some (.string y2) := HS1.out.2.1.cell 2; have p3 : w1.cell? ⟨W.heap.size + 1, 3, none⟩ = some (.slice A3b n3b c3b) := HS1.out.2.1.cell 3; clear g0 g1 g2 g3 h hb hz1 HC)
      go_wp2_with (go_at_call 9; have HQ := szPattern_l ⟨y0, y1, y2, y3⟩ ⟨A3b, n3b, c3b⟩ z1 w1 (HB.out.go HS1.out.2.2) L1.out U1.out; refine Calls.mono HQ ?_; clear HQ; intro e w2 h; obtain ⟨rfl, hb⟩ := h.long (by have := C2.out; have := Z1.out; omega); have HS2 : Hid (LawPSL W x0 x1 x2 x3 A3a n3a c3a y0 y1 y2 y3 A3b n3b c3b w2) := HS1.out.grow hb; clear h hb p0 p1 p2 p3 HS1)
      go_ret
      exact ⟨rfl, HS2.out.2.2⟩
  · have C1 := Lib.hid c1
    go_enter Try.func3, Try.ntmps3
    go_wp2_with (go_at_call 9; obtain ⟨g0, g1, g2, g3⟩ := HC.out _ rfl; have HQ := szPattern_l ⟨x0, x1, x2, x3⟩ ⟨A3a, n3a, c3a⟩ 1048576 _ (HA.out.go g2) (by decide) (by decide); refine Calls.mono HQ ?_; clear HQ; intro e w1 h; obtain ⟨rfl, hb⟩ := h.long C1.out; have HB1 := Lib.hid (g2.trans (hb.mono g2.size)); clear g0 g1 g2 g3 h hb HC)
    go_ret
    exact ⟨rfl, HB1.out⟩
theorem walk_FnExactSamePattern (d : Nat) (x : Pt) (A : Option Addr) (n c : Nat) (d' : Nat) (y : Pt) (A' : Option Addr) (n' c' : Nat) (W : World) (ha : PtV W 0 W.heap.size d x A n) (hb : PtV W 0 W.heap.size d' y A' n') :
    Calls Try.prog 3 #[x.ag A n c, y.ag A' n' c'] W fun e w' => e = .returned (.bool true) ∧ Below W.heap.size W w' :=
  walkL_FnExactSamePattern x ⟨A, n, c⟩ y ⟨A', n', c'⟩ W ⟨d, ha⟩ ⟨d', hb⟩
end Go.Proofs.Ytbaadphgbhaboaa
