/- For every scope and slice of strings, FnExactSaveNames returns true and leaves what it is handed as it was. Condition: the listed package-level variables hold what the program's text lays (tied by the given card). -/
import Derived.Test.YtflhjcdabbomiaaDoorSaveNamesM5
import Derived.Test.YtflhjcdabbomiaaDoorSaveNamesM6
import Derived.Test.YtflhjcdabbomiaaDoorCards
import Derived.Stop.LaidErr
import Derived.Deep.RegionHeld3
import Derived.Test.YtflhjcdabbomiaaDoorTie
import Derived.WalkKit
import Derived.ProofKit
import Derived.OpenShut
import Derived.LaidMore
import Derived.OpenVars
import Derived.Deep.DeepHandedRow
import Derived.Deep.CondSized
import Derived.Test.YtflhjcdabbomiaaDoorSaveNamesM3
import Derived.Test.YtflhjcdabbomiaaDoorSaveNamesM1
namespace Go.Proofs.YtflhjcdabbomiaaDoor
open Go Go.RowKit

/-- The law's scope in its box. -/
def NA (W : World) (ra : Array Value) (w : World) : Prop := RW 26 w W.heap.size ra ∧ Below W.heap.size W w
theorem NA.grow {W w w' : World} {ra : Array Value} (h : NA W ra w) (hb : Below w.heap.size w w') : NA W ra w' := ⟨h.1.below hb h.1.lt, h.2.trans (hb.mono h.2.size)⟩
theorem NA.mut {W w w' : World} {ra : Array Value} {S : Nat → Prop} (h : NA W ra w) (hm : Mut S w w') (hS : ∀ j, S j → W.heap.size < j) : NA W ra w' :=
  ⟨hm.row h.1 fun hs => by have := hS _ hs; omega, h.2.trans (hm.below (fun j hs => Nat.le_of_lt (hS j hs)) h.2.size)⟩
theorem RowBd.mut {w w' : World} {B C : Nat} {A : Option Addr} {xs : List Bd} {S : Nat → Prop} (h : RowBd w B C A xs) (hm : Mut S w w') (hS : ∀ g, B ≤ g → g < C → ¬ S g) : RowBd w' B C A xs := fun hn => by
  obtain ⟨g, cs, e, h1, h2, h3, h4, h5⟩ := h hn
  exact ⟨g, cs, e, h1, h2, hm.row h3 (hS g h1 h2), h4, h5⟩
/-- .. and the model's answer, ahead of X. -/
def N1 (W : World) (ra : Array Value) (X : Nat) (A6 : Option Addr) (V : List Bd) (w : World) : Prop := NA W ra w ∧ RowBd w W.heap.size X A6 V ∧ W.heap.size < X ∧ X ≤ w.heap.size
theorem N1.grow {W w w' : World} {ra : Array Value} {X : Nat} {A6 : Option Addr} {V : List Bd} (h : N1 W ra X A6 V w) (hb : Below w.heap.size w w') : N1 W ra X A6 V w' :=
  ⟨h.1.grow hb, h.2.1.below hb h.2.2.2, h.2.2.1, Nat.le_trans h.2.2.2 hb.size⟩
theorem N1.mut {W w w' : World} {ra : Array Value} {X : Nat} {A6 : Option Addr} {V : List Bd} {S : Nat → Prop} (h : N1 W ra X A6 V w) (hm : Mut S w w') (hS : ∀ j, S j → X ≤ j) : N1 W ra X A6 V w' :=
  ⟨h.1.mut hm fun j hj => Nat.lt_of_lt_of_le h.2.2.1 (hS j hj), h.2.1.mut hm fun g _ h2 hs => by have := hS g hs; omega, h.2.2.1, Nat.le_trans h.2.2.2 hm.2.2.2.1⟩
/-- .. and the copies: the scope in box Q, the strings in block Q1. -/
def N2 (W : World) (ra : Array Value) (X : Nat) (A6 : Option Addr) (V : List Bd) (Q Q1 Y : Nat) (rx : Array Value) (x : Sc) (lx : ScLay) (n : Nat) (ns : List St) (w : World) : Prop :=
  N1 W ra X A6 V w ∧ RW 36 w Q rx ∧ ScVO w Q x lx ∧ StIO w Y (some ⟨Q1, 0, none⟩) n ns ∧ X ≤ Q ∧ Q < Q1 ∧ Q1 ≤ Y ∧ Y ≤ w.heap.size
theorem N2.grow {W w w' : World} {ra rx : Array Value} {X Q Q1 Y n : Nat} {A6 : Option Addr} {V : List Bd} {x : Sc} {lx : ScLay} {ns : List St} (h : N2 W ra X A6 V Q Q1 Y rx x lx n ns w) (hb : Below w.heap.size w w') : N2 W ra X A6 V Q Q1 Y rx x lx n ns w' := by
  obtain ⟨h1, h2, h3, h4, h5, h6, h7, h8⟩ := h
  exact ⟨h1.grow hb, h2.below hb h2.lt, h3.below (hb.mono (Nat.le_of_lt h2.lt)), h4.below (hb.mono h8), h5, h6, h7, Nat.le_trans h8 hb.size⟩
/-- .. and the program's answer, between Y and Z. -/
def N3 (W : World) (ra : Array Value) (X : Nat) (A6 : Option Addr) (V : List Bd) (Q Q1 Y : Nat) (rx : Array Value) (x : Sc) (lx : ScLay) (n : Nat) (ns : List St) (Z : Nat) (A9 : Option Addr) (w : World) : Prop :=
  N2 W ra X A6 V Q Q1 Y rx x lx n ns w ∧ RowBd w Y Z A9 V ∧ Y ≤ Z ∧ Z ≤ w.heap.size
theorem N3.grow {W w w' : World} {ra rx : Array Value} {X Q Q1 Y n Z : Nat} {A6 A9 : Option Addr} {V : List Bd} {x : Sc} {lx : ScLay} {ns : List St} (h : N3 W ra X A6 V Q Q1 Y rx x lx n ns Z A9 w) (hb : Below w.heap.size w w') : N3 W ra X A6 V Q Q1 Y rx x lx n ns Z A9 w' :=
  ⟨h.1.grow hb, h.2.1.below hb h.2.2.2, h.2.2.1, Nat.le_trans h.2.2.2 hb.size⟩
/-- Behind the marks on the copies. -/
def N4 (W : World) (ra : Array Value) (X : Nat) (A6 : Option Addr) (V : List Bd) (Y Z : Nat) (A9 : Option Addr) (w : World) : Prop := N1 W ra X A6 V w ∧ RowBd w Y Z A9 V ∧ X ≤ Y ∧ Y ≤ Z ∧ Z ≤ w.heap.size
theorem N4.grow {W w w' : World} {ra : Array Value} {X Y Z : Nat} {A6 A9 : Option Addr} {V : List Bd} (h : N4 W ra X A6 V Y Z A9 w) (hb : Below w.heap.size w w') : N4 W ra X A6 V Y Z A9 w' :=
  ⟨h.1.grow hb, h.2.1.below hb h.2.2.2.2, h.2.2.1, h.2.2.2.1, Nat.le_trans h.2.2.2.2 hb.size⟩
theorem N4.mut {W w w' : World} {ra : Array Value} {X Y Z : Nat} {A6 A9 : Option Addr} {V : List Bd} {S : Nat → Prop} (h : N4 W ra X A6 V Y Z A9 w) (hm : Mut S w w') (hS : ∀ j, S j → X ≤ j ∧ j < Y) : N4 W ra X A6 V Y Z A9 w' :=
  ⟨h.1.mut hm fun j hj => (hS j hj).1, h.2.1.mut hm fun g h1 _ hs => by have := hS g hs; omega, h.2.2.1, h.2.2.2.1, Nat.le_trans h.2.2.2.2 hm.2.2.2.1⟩
theorem N3.four {W w : World} {ra rx : Array Value} {X Q Q1 Y n Z : Nat} {A6 A9 : Option Addr} {V : List Bd} {x : Sc} {lx : ScLay} {ns : List St} (h : N3 W ra X A6 V Q Q1 Y rx x lx n ns Z A9 w) : N4 W ra X A6 V Y Z A9 w := by
  obtain ⟨⟨h1, _, _, _, h5, h6, h7, _⟩, h9, h10, h11⟩ := h
  exact ⟨h1, h9, by omega, h10, h11⟩
/-- Behind the marks on the answer. -/
def N5 (W : World) (ra : Array Value) (X : Nat) (A6 A9 : Option Addr) (V : List Bd) (w : World) : Prop := N1 W ra X A6 V w ∧ BdI w w.heap.size A9 V.length (markBds 1 V.length)
theorem N5.grow {W w w' : World} {ra : Array Value} {X : Nat} {A6 A9 : Option Addr} {V : List Bd} (h : N5 W ra X A6 A9 V w) (hb : Below w.heap.size w w') : N5 W ra X A6 A9 V w' := ⟨h.1.grow hb, (h.2.below hb).more hb.size⟩
theorem N4.five {W w w' : World} {ra : Array Value} {X Y Z : Nat} {A6 A9 : Option Addr} {V : List Bd} (h : N4 W ra X A6 V Y Z A9 w) (hm : BdI w' w'.heap.size A9 V.length (markBds 1 V.length)) (hg : ∃ r, w.grownBy w' r ∧ ∀ g, r = some g → Y ≤ g ∧ g < Z) : N5 W ra X A6 A9 V w' := by
  obtain ⟨⟨⟨h1, h2⟩, h3, h4, h5⟩, _, h7, _, _⟩ := h
  obtain ⟨r, hg, hr⟩ := hg
  refine ⟨⟨⟨(hg.block _ h1.lt (fun e => by have := hr _ e.symm; omega)).trans h1, h2.trans ⟨hg.os, hg.tape, hg.output, hg.size, fun j hj => hg.block j (Nat.lt_of_lt_of_le hj h2.size) (fun e => by have := hr j e.symm; omega)⟩⟩, h3.grown hg (fun g _ h9 e => by have := hr g e.symm; omega), h4, Nat.le_trans h5 hg.size⟩, hm⟩
theorem bdI_len {w : World} {B p : Nat} {A : Option Addr} {V : List Bd} (hp : V.length = p) (h : BdI w B A V.length V) : BdI w B A p V := by
  subst hp
  exact h
theorem snV_sizes {x : Sc} {l : ScLay} {A : Option Addr} {n : Nat} {ns : List ByteArray} {W : World} (hv : ScV W W.heap.size x l) (hs : StI W W.heap.size A n ns) : (∀ b ∈ snV x ns, b.name_.size ≤ maxLen ∧ b.text_.size ≤ maxLen) ∧ (snV x ns).length ≤ n := by
  unfold snV
  split
  · refine ⟨fun b hb => ?_, by rw [List.length_map]; exact Nat.le_of_eq hs.1⟩
    obtain ⟨s, hsm, rfl⟩ := List.mem_map.1 hb
    obtain ⟨e, hl⟩ := lkB_spec x.vars_ s
    refine ⟨?_, ?_⟩
    · rw [e]
      obtain ⟨j, hj⟩ := List.getElem?_of_mem hsm
      have hjn : j < n := by have := (List.getElem?_eq_some_iff.1 hj).1; have := hs.1; omega
      obtain ⟨_, _, s', _, _, hx', _, hz⟩ := hs.at_ hjn
      rw [hj, Option.some.injEq] at hx'
      subst hx'
      exact hz
    · rcases hl with ⟨i, b', hi, _, _, _, _, ht, _⟩ | ⟨_, _, _, ht, _⟩
      · rw [ht]; exact (hv.1.sizes i b' hi).2
      · rw [ht]; exact Nat.zero_le _
  · exact ⟨fun b hb => by simp at hb, Nat.zero_le _⟩

set_option maxHeartbeats 8000000 in
set_option maxRecDepth 100000 in
theorem walk_FnExactSaveNames (x : Sc) (l : ScLay) (A : Option Addr) (n c : Nat) (ns : List St) (W : World) (ha : ScV W W.heap.size x l) (hs : StI W W.heap.size A n ns) (hL : laidMetH Tryd.prog Rows.fnExactSaveNamesRow.laid W) :
    Calls Tryd.prog 4 #[x.ag l, .slice A n c] W fun e w' => e = .returned (.bool true) ∧ Below W.heap.size W w' := by
  have h1 : laidMet Tryd.prog [("loop.example/g00873/impl.byteClasses", Rows.laid_loop_example_g00873_impl_byteClasses)] W := hL
  have hT : Classes W := Lib.tabIs_of_head (rest := []) gClasses (by kernel_rfl) Tryd.underlying111 Tryd.underlying5 (by kernel_rfl) (by kernel_rfl) h1
  have HT := Lib.hid hT
  clear hL h1 hT
  obtain ⟨hvs, hvl⟩ := snV_sizes ha hs
  have HN := Lib.hid hs.1
  obtain ⟨V, hV⟩ : ∃ V, snV x ns = V := ⟨_, rfl⟩
  rw [hV] at hvs hvl
  obtain ⟨p, hp⟩ : ∃ p, V.length = p := ⟨_, rfl⟩
  have HP := Lib.hid hp
  have HVS := Lib.hid hvs
  by_cases cz1 : (szSc1 x : Int) ≤ 1048576
  rotate_left
  · have C1 := Lib.hid cz1
    have HA := Lib.hid ha
    clear cz1 ha hs hvs hvl hV hp HT HN HP HVS
    obtain ⟨x0, x1, x2⟩ := x
    obtain ⟨A0, n0, c0, h0, A1, n1, c1, h1, A2, n2, c2, h2⟩ := l
    have HC := Lib.hid (one_newS W 26 #[.slice A0 n0 c0, .slice A1 n1 c1, .slice A2 n2 c2])
    show Calls Tryd.prog 4 #[.agg #[.slice A0 n0 c0, .slice A1 n1 c1, .slice A2 n2 c2], .slice A n c] W _
    go_enter Tryd.func4, Tryd.ntmps4
    go_wp2_with (go_at_call 5; obtain ⟨g0, g1, g2⟩ := HC.out _ rfl; have HQ := szScope_any ⟨x0, x1, x2⟩ ⟨A0, n0, c0, h0, A1, n1, c1, h1, A2, n2, c2, h2⟩ 1048576 _ (HA.out.go g1) (by decide) (by decide); refine Calls.mono HQ ?_; clear HQ; intro e w1 h; obtain ⟨rfl, hb⟩ := h.long C1.out; have HB1 := Lib.hid (g1.trans (hb.mono g1.size)); clear g0 g1 g2 h hb HC)
    go_ret
    exact ⟨rfl, HB1.out⟩
  by_cases cz2 : (szSt ns : Int) ≤ 1048576 - (szSc1 x : Int)
  rotate_left
  · have C1 := Lib.hid cz1
    have C2 := Lib.hid cz2
    have HA := Lib.hid ha
    have HS := Lib.hid hs
    clear cz1 cz2 ha hs hvs hvl hV hp HT HN HP HVS
    obtain ⟨x0, x1, x2⟩ := x
    obtain ⟨A0, n0, c0, h0, A1, n1, c1, h1, A2, n2, c2, h2⟩ := l
    have HC := Lib.hid (one_newS W 26 #[.slice A0 n0 c0, .slice A1 n1 c1, .slice A2 n2 c2])
    show Calls Tryd.prog 4 #[.agg #[.slice A0 n0 c0, .slice A1 n1 c1, .slice A2 n2 c2], .slice A n c] W _
    go_enter Tryd.func4, Tryd.ntmps4
    go_wp2_with (first
      | (go_at_call 5; obtain ⟨g0, g1, g2⟩ := HC.out _ rfl; have HQ := szScope_any ⟨x0, x1, x2⟩ ⟨A0, n0, c0, h0, A1, n1, c1, h1, A2, n2, c2, h2⟩ 1048576 _ (HA.out.go g1) (by decide) (by decide); refine Calls.mono HQ ?_; clear HQ; intro e w1 h; obtain ⟨z1, rfl, hz1, l1, u1, hb⟩ := h.fits C1.out (by decide); have d1 : decide (z1 < 0) = false := (by simp; omega); have Z1 := Lib.hid hz1; have L1 := Lib.hid l1; have U1 := Lib.hid u1; have HB1 := Lib.hid (g1.trans (hb.mono g1.size)); clear g0 g1 g2 h hb hz1 HC)
      | (go_at_call 11; have HQ := szStringS_any A n c ns z1 w1 (HS.out.go HB1.out) L1.out U1.out; refine Calls.mono HQ ?_; clear HQ; intro e w2 h; obtain ⟨rfl, hb⟩ := h.long (by have := C2.out; have := Z1.out; omega); have HB2 := Lib.hid (HB1.out.trans (hb.mono HB1.out.size)); clear h hb))
    go_ret
    exact ⟨rfl, HB2.out⟩
  have C1 := Lib.hid cz1
  have C2 := Lib.hid cz2
  have hn : n ≤ 1048576 := by have := HN.out; unfold szSt at cz2; omega
  have HNN := Lib.hid hn
  have HVL : Hid (V.length ≤ 1048576) := by show _ ≤ _; omega
  have hpl : p ≤ 1048576 := by omega
  have hsm := small_Sc1 cz1
  have TA := Lib.hid (fun (w : World) (hb : Below W.heap.size W w) => toScope_any x l w (ha.go hb) hsm)
  have TO := Lib.hid (fun (w : World) (hb : Below W.heap.size W w) => toScope_own x l w (ha.go hb) hsm)
  have SA := Lib.hid (fun (w : World) (hb : Below W.heap.size W w) => toStringS_any A n c ns w (hs.go hb) hn)
  have SO := Lib.hid (fun (w : World) (hb : Below W.heap.size W w) => toStringS_own A n c ns w (hs.go hb) hn)
  have HZS := Lib.hid (fun (w : World) (hb : Below W.heap.size W w) => szScope_any x l 1048576 w (ha.go hb) (by decide) (by decide))
  have HZT := Lib.hid (fun (z : Int) (w : World) (hb : Below W.heap.size W w) (h0 : 0 ≤ z) (h1 : z ≤ 1048576) => szStringS_any A n c ns z w (hs.go hb) h0 h1)
  have HSP := Lib.hid (fun (w : World) (lm : ScLay) (A' : Option Addr) (c' : Nat) (h1 : ScV w w.heap.size x lm) (h2 : StI w w.heap.size A' n ns) => (show Calls Tryd.prog 12 #[x.ag lm, .slice A' n c'] w fun e w' => ∃ A'' c'', e = .returned (.slice A'' p c'') ∧ Hid (RowBd w' w.heap.size w'.heap.size A'' V ∧ Below w.heap.size w w') from by have := spec_SaveNames_any x lm A' n c' ns w h1 h2 hn; rw [hV, hp] at this; exact this))
  have HIM := Lib.hid (fun (w : World) (lm : ScLay) (A' : Option Addr) (c' : Nat) (h1 : ScV w w.heap.size x lm) (h2 : StI w w.heap.size A' n ns) (hT : Classes w) => (show Calls Tryd.prog 14 #[x.ag lm, .slice A' n c'] w fun e w' => ∃ A'' c'', e = .returned (.slice A'' p c'') ∧ Hid (RowBd w' w.heap.size w'.heap.size A'' V ∧ Below w.heap.size w w') from by have := impl_SaveNames_any x lm A' n c' ns w h1 h2 hn hT; rw [hV, hp] at this; exact this))
  have HBI := Lib.hid (fun (w : World) (B C : Nat) (A' : Option Addr) (h : RowBd w B C A' V) (hC : C ≤ w.heap.size) => (show BdI w w.heap.size A' p V from bdI_len hp ((h.toI (by have := HVL.out; unfold maxLen; omega) (fun b hb => (HVS.out b hb).1) (fun b hb => (HVS.out b hb).2)).more hC)))
  have HMK := Lib.hid (fun (w : World) (lx : ScLay) (a B : Nat) (h : ScVO w B x lx) (hB : B ≤ w.heap.size) (h0 : ∀ y, lx.A0 = some y → a ≤ y.block) (h1 : ∀ y, lx.A1 = some y → a ≤ y.block) (h2 : ∀ y, lx.A2 = some y → a ≤ y.block) => markScope_mut x lx a B 1 w h hB (by decide) (by decide) (by have := C1.out; omega) h0 h1 h2)
  clear cz1 cz2 ha hs hvs hvl hV hp hsm
  obtain ⟨x0, x1, x2⟩ := x
  obtain ⟨A0, n0, c0, h0, A1, n1, c1, h1, A2, n2, c2, h2⟩ := l
  have HC := Lib.hid (one_newS W 26 #[.slice A0 n0 c0, .slice A1 n1 c1, .slice A2 n2 c2])
  have tk1 : True := trivial
  have tk2 : True := trivial
  have tkS1 : True := trivial
  have tkS2 : True := trivial
  show Calls Tryd.prog 4 #[.agg #[.slice A0 n0 c0, .slice A1 n1 c1, .slice A2 n2 c2], .slice A n c] W _
  go_enter Tryd.func4, Tryd.ntmps4
  go_wp2_with (first
    | (go_at_call 5; obtain ⟨g0, g1, g2⟩ := HC.out _ rfl; have HQ := HZS.out _ g1; refine Calls.mono HQ ?_; clear HQ; intro e w1 h; obtain ⟨z1, rfl, hz1, l1, u1, hb⟩ := h.fits C1.out (by decide); have d1 : decide (z1 < 0) = false := (by simp; omega); have Z1 := Lib.hid hz1; have L1 := Lib.hid l1; have U1 := Lib.hid u1; have HA1 : Hid (NA W #[.slice A0 n0 c0, .slice A1 n1 c1, .slice A2 n2 c2] w1) := ⟨g0.below hb g2, g1.trans (hb.mono g1.size)⟩; clear g0 g1 g2 h hb hz1 HC HZS)
    | (go_at_call 11; have HQ := HZT.out z1 w1 HA1.out.2 L1.out U1.out; refine Calls.mono HQ ?_; clear HQ; intro e w2 h; obtain ⟨z2, rfl, hz2, l2, u2, hb⟩ := h.fits (by have := C2.out; have := Z1.out; omega) U1.out; have d2 : decide (z2 < 0) = false := (by simp; omega); have HA2 := Lib.hid (HA1.out.grow hb); have p0 : w2.cell? ⟨W.heap.size, 0, none⟩ = some (.slice A0 n0 c0) := HA2.out.1.cell 0; have p1 : w2.cell? ⟨W.heap.size, 1, none⟩ = some (.slice A1 n1 c1) := HA2.out.1.cell 1; have p2 : w2.cell? ⟨W.heap.size, 2, none⟩ = some (.slice A2 n2 c2) := HA2.out.1.cell 2; clear h hb hz2 HZT HA1)
    | (go_at_call 7; have tk := tk1; have HQ := TA.out _ HA2.out.2; refine Calls.mono HQ ?_; clear HQ; rintro e w3 ⟨⟨A0m, n0m, c0m, h0m, A1m, n1m, c1m, h1m, A2m, n2m, c2m, h2m⟩, he, h⟩; obtain rfl : e = .returned (.agg #[.slice A0m n0m c0m, .slice A1m n1m c1m, .slice A2m n2m c2m]) := he; obtain ⟨hv, hb, hq⟩ := h.out; clear hq; have HV3 := Lib.hid hv; have HA3 := Lib.hid (HA2.out.grow hb); clear h hv hb p0 p1 p2 tk tk1 HA2)
    | (go_at_call 13; have tk := tkS1; have HQ := SA.out _ HA3.out.2; refine Calls.mono HQ ?_; clear HQ; rintro e w4 ⟨rfl, h⟩; obtain ⟨hv, hb⟩ := h.out; have HS4 := Lib.hid hv; have HV4 := Lib.hid (HV3.out.go hb); have HA4 := Lib.hid (HA3.out.grow hb); clear h hv hb tk tkS1 HV3 HA3)
    | (go_at_call 12; have HQ := HSP.out w4 ⟨A0m, n0m, c0m, h0m, A1m, n1m, c1m, h1m, A2m, n2m, c2m, h2m⟩ (some ⟨w3.heap.size, 0, none⟩) n HV4.out HS4.out; refine Calls.mono HQ ?_; clear HQ; rintro e w5 ⟨A6, c6, rfl, h⟩; obtain ⟨hv, hb⟩ := h.out; have HN5 : Hid (N1 W #[.slice A0 n0 c0, .slice A1 n1 c1, .slice A2 n2 c2] w5.heap.size A6 V w5) := ⟨HA4.out.grow hb, hv.lower HA4.out.2.size, Nat.lt_of_lt_of_le HA4.out.1.lt hb.size, Nat.le_refl _⟩; have p0 : w5.cell? ⟨W.heap.size, 0, none⟩ = some (.slice A0 n0 c0) := HN5.out.1.1.cell 0; have p1 : w5.cell? ⟨W.heap.size, 1, none⟩ = some (.slice A1 n1 c1) := HN5.out.1.1.cell 1; have p2 : w5.cell? ⟨W.heap.size, 2, none⟩ = some (.slice A2 n2 c2) := HN5.out.1.1.cell 2; clear h hv hb HSP HV4 HS4 HA4)
    | (go_at_call 7; have tk := tk2; have HQ := TO.out _ HN5.out.1.2; refine Calls.mono HQ ?_; clear HQ; rintro e w6 ⟨⟨A0q, n0q, c0q, h0q, A1q, n1q, c1q, h1q, A2q, n2q, c2q, h2q⟩, he, h⟩; obtain rfl : e = .returned (.agg #[.slice A0q n0q c0q, .slice A1q n1q c1q, .slice A2q n2q c2q]) := he; obtain ⟨hv, hb, b0, b1, b2, e0, e1, e2, g0, g1, g2⟩ := h.out; have HL6 : Hid ((∀ y, A0q = some y → w5.heap.size ≤ y.block) ∧ (∀ y, A1q = some y → w5.heap.size ≤ y.block) ∧ (∀ y, A2q = some y → w5.heap.size ≤ y.block)) := ⟨fun y hy => by dsimp only at e0; rw [e0] at hy; cases hy; exact g0, fun y hy => by dsimp only at e1; rw [e1] at hy; cases hy; exact g1, fun y hy => by dsimp only at e2; rw [e2] at hy; cases hy; exact g2⟩; have HN6 := Lib.hid ((HN5.out.grow hb).grow (below_alloc w6 (.cells #[.slice A0q n0q c0q, .slice A1q n1q c1q, .slice A2q n2q c2q] 36))); have HX6 := Lib.hid (RW.new w6 #[.slice A0q n0q c0q, .slice A1q n1q c1q, .slice A2q n2q c2q] 36); have HV6 := Lib.hid (hv.self.below (below_alloc w6 (.cells #[.slice A0q n0q c0q, .slice A1q n1q c1q, .slice A2q n2q c2q] 36))); have HG6 : Hid (w5.heap.size ≤ w6.heap.size) := hb.size; clear h hv hb e0 e1 e2 g0 g1 g2 b0 b1 b2 p0 p1 p2 tk tk2 TO)
    | (go_at_call 13; have tk := tkS2; have HQ := SO.out (w6.alloc (.cells #[.slice A0q n0q c0q, .slice A1q n1q c1q, .slice A2q n2q c2q] 36)) HN6.out.1.2; obtain ⟨Q1, hQ1⟩ : ∃ q, (w6.alloc (.cells #[.slice A0q n0q c0q, .slice A1q n1q c1q, .slice A2q n2q c2q] 36)).heap.size = q := ⟨_, rfl⟩; refine Calls.mono HQ ?_; clear HQ; rintro e w7 ⟨he, h⟩; obtain ⟨hv, hb⟩ := h.out; have HN7 := HN6.out.grow hb; have HX7 := HX6.out.below hb HX6.out.lt; have HV7 := HV6.out.below (hb.mono (Nat.le_of_lt HX6.out.lt)); have hs := hb.size; rw [hQ1] at he hv hs; have hq6 : w6.heap.size < Q1 := (by rw [← hQ1]; exact lt_alloc _ _); have HN2 : Hid (N2 W #[.slice A0 n0 c0, .slice A1 n1 c1, .slice A2 n2 c2] w5.heap.size A6 V w6.heap.size Q1 w7.heap.size #[.slice A0q n0q c0q, .slice A1q n1q c1q, .slice A2q n2q c2q] ⟨x0, x1, x2⟩ ⟨A0q, n0q, c0q, h0q, A1q, n1q, c1q, h1q, A2q, n2q, c2q, h2q⟩ n ns w7) := ⟨HN7, HX7, HV7, hv, HG6.out, hq6, hs, Nat.le_refl _⟩; subst he; have q0 : w7.cell? ⟨w6.heap.size, 0, none⟩ = some (.slice A0q n0q c0q) := HN2.out.2.1.cell 0; have q1 : w7.cell? ⟨w6.heap.size, 1, none⟩ = some (.slice A1q n1q c1q) := HN2.out.2.1.cell 1; have q2 : w7.cell? ⟨w6.heap.size, 2, none⟩ = some (.slice A2q n2q c2q) := HN2.out.2.1.cell 2; clear h hv hb hs hq6 hQ1 HN7 HX7 HV7 HN6 HX6 HV6 HN5 tk tkS2 SO)
    | (go_at_call 14; have HQ := HIM.out w7 ⟨A0q, n0q, c0q, h0q, A1q, n1q, c1q, h1q, A2q, n2q, c2q, h2q⟩ (some ⟨Q1, 0, none⟩) n (HN2.out.2.2.1.toV.more (Nat.le_of_lt HN2.out.2.1.lt)) HN2.out.2.2.2.1.1 (classes_go HT.out HN2.out.1.1.2); refine Calls.mono HQ ?_; clear HQ; rintro e w8 ⟨A9, c9, rfl, h⟩; obtain ⟨hv, hb⟩ := h.out; have HN3 : Hid (N3 W #[.slice A0 n0 c0, .slice A1 n1 c1, .slice A2 n2 c2] w5.heap.size A6 V w6.heap.size Q1 w7.heap.size #[.slice A0q n0q c0q, .slice A1q n1q c1q, .slice A2q n2q c2q] ⟨x0, x1, x2⟩ ⟨A0q, n0q, c0q, h0q, A1q, n1q, c1q, h1q, A2q, n2q, c2q, h2q⟩ n ns w8.heap.size A9 w8) := ⟨HN2.out.grow hb, hv, hb.size, Nat.le_refl _⟩; clear h hv hb q0 q1 q2 HN2)
    | (go_at_call 15; have HQ := eqBindingS_same A9 A6 p c9 c6 V w8 (HBI.out _ _ _ _ HN3.out.2.1 HN3.out.2.2.2) (HBI.out _ _ _ _ HN3.out.1.1.2.1 HN3.out.1.1.2.2.2); refine Calls.mono HQ ?_; clear HQ; rintro e w9 ⟨rfl, hb⟩; have HN9 := Lib.hid (HN3.out.grow hb); clear hb HN3))
  have H9 := Lib.hid (HN9.out.grow (Below.refl _ _).drew)
  go_region_held3 (fun w => w.cell? ⟨w6.heap.size, 0, none⟩ = some (.slice A0q n0q c0q) ∧ w.cell? ⟨w6.heap.size, 1, none⟩ = some (.slice A1q n1q c1q) ∧ w.cell? ⟨w6.heap.size, 2, none⟩ = some (.slice A2q n2q c2q) ∧ w.cell? ⟨W.heap.size, 0, none⟩ = some (.slice A0 n0 c0) ∧ w.cell? ⟨W.heap.size, 1, none⟩ = some (.slice A1 n1 c1) ∧ w.cell? ⟨W.heap.size, 2, none⟩ = some (.slice A2 n2 c2))
    (first | exact ⟨H9.out.1.2.1.cell 0, H9.out.1.2.1.cell 1, H9.out.1.2.1.cell 2, H9.out.1.1.1.1.cell 0, H9.out.1.1.1.1.cell 1, H9.out.1.1.1.1.cell 2⟩ | exact ⟨HN10.out.1.2.1.cell 0, HN10.out.1.2.1.cell 1, HN10.out.1.2.1.cell 2, HN10.out.1.1.1.1.cell 0, HN10.out.1.1.1.1.cell 1, HN10.out.1.1.1.1.cell 2⟩ | exact ⟨HN11.out.1.2.1.cell 0, HN11.out.1.2.1.cell 1, HN11.out.1.2.1.cell 2, HN11.out.1.1.1.1.cell 0, HN11.out.1.1.1.1.cell 1, HN11.out.1.1.1.1.cell 2⟩ | go_keep)
    ((first
      | (go_at_call 7; have HQ := TA.out _ H9.out.1.1.1.2; refine Calls.mono HQ ?_; clear HQ; rintro e w10 ⟨⟨A0u, n0u, c0u, h0u, A1u, n1u, c1u, h1u, A2u, n2u, c2u, h2u⟩, he, h⟩; obtain rfl : e = .returned (.agg #[.slice A0u n0u c0u, .slice A1u n1u c1u, .slice A2u n2u c2u]) := he; obtain ⟨hv, hb, hq⟩ := h.out; clear hq; have HVU := Lib.hid hv; have HN10 := Lib.hid (H9.out.grow hb); clear h hv hb)
      | (go_at_call 10; have HQ := eqScope_same ⟨x0, x1, x2⟩ ⟨A0q, n0q, c0q, h0q, A1q, n1q, c1q, h1q, A2q, n2q, c2q, h2q⟩ ⟨A0u, n0u, c0u, h0u, A1u, n1u, c1u, h1u, A2u, n2u, c2u, h2u⟩ _ (HN10.out.1.2.2.1.toV.more (Nat.le_of_lt HN10.out.1.2.1.lt)) HVU.out; refine Calls.mono HQ ?_; clear HQ; rintro e w11 ⟨rfl, hb⟩; have HN11 := Lib.hid (HN10.out.grow hb); clear hb)))
  clear H9 HN10 HN9
  go_split_ands
  have tkS3 : True := trivial
  have tkS4 : True := trivial
  have tkE2 : True := trivial
  have tkE3 : True := trivial
  have tkH1 : True := trivial
  have tkH2 : True := trivial
  have n17 : ((1 + p * 5 : Nat) : Int) = 1 + (p : Int) * 5 := by push_cast; rfl
  clear n17
  go_wp2_with (first
    | (go_at_call 13; have tk := tkS3; have HQ := SA.out _ HN11.out.1.1.1.2; refine Calls.mono HQ ?_; clear HQ; rintro e w12 ⟨rfl, h⟩; obtain ⟨hv, hb⟩ := h.out; have HS12 := Lib.hid hv; have HN12 := Lib.hid (HN11.out.grow hb); clear h hv hb tk tkS3 HN11)
    | (go_at_call 16; have HQ := eqStringS_same (some ⟨Q1, 0, none⟩) _ n n n ns w12 (HN12.out.1.2.2.2.1.1.more HN12.out.1.2.2.2.2.2.2.2) HS12.out; refine Calls.mono HQ ?_; clear HQ; rintro e w13 ⟨rfl, hb⟩; have HN13 := Lib.hid (HN12.out.grow hb); have q0 : w13.cell? ⟨w6.heap.size, 0, none⟩ = some (.slice A0q n0q c0q) := HN13.out.1.2.1.cell 0; have q1 : w13.cell? ⟨w6.heap.size, 1, none⟩ = some (.slice A1q n1q c1q) := HN13.out.1.2.1.cell 1; have q2 : w13.cell? ⟨w6.heap.size, 2, none⟩ = some (.slice A2q n2q c2q) := HN13.out.1.2.1.cell 2; clear hb HN12 HS12)
    | (go_at_call 17; have HQ := HMK.out w13 ⟨A0q, n0q, c0q, h0q, A1q, n1q, c1q, h1q, A2q, n2q, c2q, h2q⟩ w5.heap.size w6.heap.size HN13.out.1.2.2.1 (Nat.le_of_lt HN13.out.1.2.1.lt) HL6.out.1 HL6.out.2.1 HL6.out.2.2; refine Calls.mono HQ ?_; clear HQ; rintro e w14 ⟨k, rfl, hk1, hk2, hm⟩; have HK := Lib.hid (And.intro hk1 hk2); have HN14 : Hid (N4 W #[.slice A0 n0 c0, .slice A1 n1 c1, .slice A2 n2 c2] w5.heap.size A6 V w7.heap.size w8.heap.size A9 w14) := HN13.out.four.mut hm (fun j hj => ⟨hj.1, by have h5 := HN13.out.1.2.2.2.2.2.1; have h6 := HN13.out.1.2.2.2.2.2.2.1; omega⟩); have HW14 := Lib.hid (HN13.out.1.2.2.2.1.2.mut hm); have HB14 : Hid (∀ b, Blk1 (some ⟨Q1, 0, none⟩) n b → w5.heap.size ≤ b ∧ b < w7.heap.size) := (fun b hb => by have h4 := HN13.out.1.2.2.2.2.1; have h5 := HN13.out.1.2.2.2.2.2.1; have hlt := HN13.out.1.2.2.2.1.blk b hb; have e := hb.2; simp only [Option.some.injEq, Addr.mk.injEq, and_true] at e; omega); clear hk1 hk2 hm q0 q1 q2 HN13 HMK)
    | (go_at_call 18; have hh := markStringS_mut (some ⟨Q1, 0, none⟩) n n k w14 HW14.out (by have := HK.out; omega) (by have := HK.out; have := HNN.out; omega); refine hh.mono ?_; clear hh; rintro e w15 ⟨rfl, hm⟩; have HN15 : Hid (N4 W #[.slice A0 n0 c0, .slice A1 n1 c1, .slice A2 n2 c2] w5.heap.size A6 V w7.heap.size w8.heap.size A9 w15) := HN14.out.mut hm (fun j hj => HB14.out j hj); have d15 : decide (((k + n : Nat) : Int) < 0) = false := (by simp; omega); have d15' : ¬ ((k + n : Nat) : Int) < 0 := (by omega); clear hm HN14 HW14 HB14)
    | (go_at_call 15; have tk := tkE2; have HQ := eqBindingS_same A9 A6 p c9 c6 V w15 (HBI.out _ _ _ _ HN15.out.2.1 HN15.out.2.2.2.2) (HBI.out _ _ _ _ HN15.out.1.2.1 HN15.out.1.2.2.2); refine Calls.mono HQ ?_; clear HQ; rintro e w16 ⟨rfl, hb⟩; have HN16 := Lib.hid (HN15.out.grow hb); clear hb HN15 tk tkE2)
    | (go_at_call 19; have hh := mark_rowBd c9 HN16.out.2.1 HN16.out.2.2.2.2 HVL.out; rw [HP.out] at hh; refine hh.mono ?_; clear hh; rintro e w17 ⟨rfl, hm, hg⟩; have hm' : BdI w17 w17.heap.size A9 V.length (markBds 1 V.length) := (by rw [HP.out]; exact hm); have HN17 := Lib.hid (HN16.out.five hm' hg); clear hm hm' hg HN16)
    | (go_at_call 20; have tk := tkH1; have hh := held_oneBd c9 (w := w17) (A := A9) (n := p) (by have := HN17.out.2; rw [HP.out] at this; exact this) hpl; refine hh.mono ?_; clear hh; rintro e w18 ⟨rfl, hb⟩; have HN18 := Lib.hid (HN17.out.grow hb); have d18 : ¬ ((1 + p * 5 : Nat) : Int) < 0 := (by omega); have p0 : w18.cell? ⟨W.heap.size, 0, none⟩ = some (.slice A0 n0 c0) := HN18.out.1.1.1.cell 0; have p1 : w18.cell? ⟨W.heap.size, 1, none⟩ = some (.slice A1 n1 c1) := HN18.out.1.1.1.cell 1; have p2 : w18.cell? ⟨W.heap.size, 2, none⟩ = some (.slice A2 n2 c2) := HN18.out.1.1.1.cell 2; clear hb HN17 tk tkH1)
    | (go_at_call 7; have HQ := TA.out _ HN18.out.1.1.2; refine Calls.mono HQ ?_; clear HQ; rintro e w19 ⟨⟨A0z, n0z, c0z, h0z, A1z, n1z, c1z, h1z, A2z, n2z, c2z, h2z⟩, he, h⟩; obtain rfl : e = .returned (.agg #[.slice A0z n0z c0z, .slice A1z n1z c1z, .slice A2z n2z c2z]) := he; obtain ⟨hv, hb, hq⟩ := h.out; clear hq; have HV19 := Lib.hid hv; have HN19 := Lib.hid (HN18.out.grow hb); clear h hv hb p0 p1 p2 HN18)
    | (go_at_call 13; have tk := tkS4; have HQ := SA.out _ HN19.out.1.1.2; refine Calls.mono HQ ?_; clear HQ; rintro e w20 ⟨rfl, h⟩; obtain ⟨hv, hb⟩ := h.out; have HS20 := Lib.hid hv; have HV20 := Lib.hid (HV19.out.go hb); have HN20 := Lib.hid (HN19.out.grow hb); clear h hv hb tk tkS4 HV19 HN19)
    | (go_at_call 14; have HQ := HIM.out w20 ⟨A0z, n0z, c0z, h0z, A1z, n1z, c1z, h1z, A2z, n2z, c2z, h2z⟩ (some ⟨w19.heap.size, 0, none⟩) n HV20.out HS20.out (classes_go HT.out HN20.out.1.1.2); refine Calls.mono HQ ?_; clear HQ; rintro e w21 ⟨A13, c13, rfl, h⟩; obtain ⟨hv, hb⟩ := h.out; have HN21 := Lib.hid (HN20.out.grow hb); have HR21 := Lib.hid hv; clear h hv hb HV20 HS20 HN20)
    | (go_at_call 15; have tk := tkE3; have HQ := eqBindingS_same A13 A6 p c13 c6 V w21 (HBI.out _ _ _ _ HR21.out (Nat.le_refl _)) (HBI.out _ _ _ _ HN21.out.1.2.1 HN21.out.1.2.2.2); refine Calls.mono HQ ?_; clear HQ; rintro e w22 ⟨rfl, hb⟩; have HN22 := Lib.hid (HN21.out.grow hb); clear hb HN21 HR21 tk tkE3)
    | (go_at_call 20; have tk := tkH2; have hh := held_oneBd c9 (w := w22) (A := A9) (n := p) (by have := HN22.out.2; rw [HP.out] at this; exact this) hpl; refine hh.mono ?_; clear hh; rintro e w23 ⟨rfl, hb⟩; have HN23 := Lib.hid (HN22.out.grow hb); clear hb HN22 tk tkH2))
  go_ret
  exact ⟨rfl, HN23.out.1.1.2⟩
end Go.Proofs.YtflhjcdabbomiaaDoor

namespace Go.Proofs.YtflhjcdabbomiaaDoor.fnExactSaveNames
open Go.ChangeShapes Go.WideShapes Go.ChangeAt Go.RowKit
open Go.ChangeMaps (open_string shut_string)

theorem own : ownKnob Tryd.prog.godebug = none := by kernel_rfl
theorem laidOut : laidOutB Tryd.prog = true := by kernel_rfl

set_option maxRecDepth 100000 in
theorem contract (H : Type) (enc : TypeId × Value → H) (W : World) (base : Nat) (args : Array Value) (ds gs : List (DataW H)) (before : List MemPlace)
    (hval : ∀ (j : Nat) t v, Tryd.f4.params[j]? = some t → args[j]? = some v → Value.okWide Tryd.prog W .any base t v)
    (hW : DataW.Whole enc Tryd.prog Tryd.f4.params.toList Rows.fnExactSaveNamesSpec.vars false W args.toList ds gs before) (hL : laidMetH Tryd.prog Rows.fnExactSaveNamesRow.laid W) :
    Calls Tryd.prog 4 args W fun e W' => ∃ v, e = .returned v ∧ Rows.fnExactSaveNamesSpec.post enc Tryd.prog Tryd.f4 false true false false W args v W' := by
  have hW' := hW
  obtain ⟨p, q, hA0, hV, rfl, hfz, hnd⟩ := hW
  have hA : DataW.TrodAll enc Tryd.prog W 0 (fun _ => true) true Tryd.f4.params.toList args.toList ds p := hA0
  rw [Tryd.params4] at hA hval
  obtain ⟨v0, vs0, d0, ds0, p0, q0, hargs0, rfl, rfl, h0, r0⟩ := trodAll_cons hA
  obtain ⟨v1, vs1, d1, ds1, p1, q1, hargs1, rfl, rfl, h1, r1⟩ := trodAll_cons r0
  obtain ⟨rfl, rfl, rfl⟩ := trodAll_nil r1
  obtain rfl : args = #[v0, v1] := by cases args; simp_all
  have k0 := h0
  have lt0 : ∀ x ∈ p0, x.block < W.heap.size := by obtain ⟨m, hm⟩ := k0; exact DataW.trod_lt m _ _ _ hm
  obtain ⟨x0, l0, rfl, ho0⟩ := open_Sc (hval 0 26 v0 rfl rfl) h0
  have k1 := h1
  have lt1 : ∀ x ∈ p1, x.block < W.heap.size := by obtain ⟨m, hm⟩ := k1; exact DataW.trod_lt m _ _ _ hm
  obtain ⟨A1, n1, c1, rfl⟩ := okWide_slice Tryd.underlying41 (hval 1 41 v1 rfl rfl)
  obtain ⟨xs1, hvs1⟩ := open_St k1
  clear hA0
  have kV := hV
  obtain ⟨gv0, tv0, cs0, m0, yv0, pv0, rfl, _, _, _, _, _⟩ := trodVars_one (show DataW.TrodVars enc Tryd.prog W (fun _ => true) ["loop.example/g00873/impl.byteClasses"] gs q from hV)
  refine (walk_FnExactSaveNames x0 l0 A1 n1 c1 xs1 W ho0 hvs1 hL).mono fun e W' ⟨he, bel⟩ => ?_
  subst he
  exact ⟨_, rfl, _, _, _, [], _, _, hW', trodAll_mk1 (shut_bool Tryd.underlying4 _), (trodAll_cons_mk (Below.trod laidOut (by kernel_rfl) (of_decide_eq_true (by kernel_rfl)) k0 bel lt0) (trodAll_cons_mk (Below.trod laidOut (by kernel_rfl) (of_decide_eq_true (by kernel_rfl)) k1 bel lt1) trodAll_mk0)), (Below.trodVars laidOut bel (by kernel_rfl) kV), bel.frame _, fun h => by cases h⟩

theorem laid_met (os : Os) : laidMetH Tryd.prog Rows.fnExactSaveNamesRow.laid ((World.doorLaid Tryd.prog 4000 os).forCall (fun _ _ => 0) ⟨#[], #[.agg #[.slice none 0 0, .slice none 0 0, .slice none 0 0], .slice none 0 0], []⟩).memory :=
  laidMetH_of_parts3 (fuel := 8) (laidMet_of_run' 8 (by kernel_rfl) (by kernel_rfl)) (by kernel_rfl) (by kernel_rfl)
theorem reads (os : Os) {H : Type} (enc : TypeId × Value → H) : ∃ places, DataW.whole enc Tryd.prog ((World.doorLaid Tryd.prog 4000 os).forCall (fun _ _ => 0) ⟨#[], #[.agg #[.slice none 0 0, .slice none 0 0, .slice none 0 0], .slice none 0 0], []⟩).memory Tryd.f4.params.toList Rows.fnExactSaveNamesSpec.vars false #[Value.agg #[.slice none 0 0, .slice none 0 0, .slice none 0 0], Value.slice none 0 0].toList 8 = some ([.agg [.nil, .nil, .nil], .nil], [Rows.laid_loop_example_g00873_impl_byteClasses], places) :=
  ⟨MemPlace.row ⟨0, 0, none⟩ 128, by kernel_rfl⟩

set_option maxRecDepth 100000 in
theorem lifted (os : Os) (started : os.Started) (H : Type) (enc : TypeId × Value → H) (F : Stop.Interp) :
    ReturnsInHanded {} Tryd.checked os 4 .any ((OpenSpec.ofChange Rows.fnExactSaveNamesSpec).preRow enc Tryd.prog Tryd.f4 Rows.fnExactSaveNamesRow.domain false Rows.fnExactSaveNamesRow.laid) (((OpenSpec.ofChange Rows.fnExactSaveNamesSpec).at F).post enc Tryd.prog Tryd.f4 false true false false) := by
  obtain ⟨places, hx⟩ := reads os enc
  refine returnsInHanded_of_row (C := Tryd.checked) (s := OpenSpec.ofChange Rows.fnExactSaveNamesSpec) own started (by kernel_rfl) Tryd.func4
    (witness_row_at (enc := enc) (C := Tryd.checked) false (World.doorLaid Tryd.prog 4000 os) #[.agg #[.slice none 0 0, .slice none 0 0, .slice none 0 0], .slice none 0 0] rfl (by kernel_rfl) (by kernel_rfl) (by kernel_rfl)
      (OpenSpec.preRow_of_cond 8 hx (by kernel_rfl) (fun k hk => by cases hk) (by kernel_rfl) (laid_met os))) ?_
  intro W base args ds gs before hval hW _ hb hz hL hsh _
  exact contract H enc W base args ds gs before hval hW hL

theorem over : Rows.FnExactSaveNamesSaid :=
  OpenClaim.holds_of_cond 4 Tryd.f4 rfl rfl rfl rfl rfl rfl rfl ⟨rfl, rfl, rfl, rfl, rfl⟩ rfl rfl rfl rfl rfl (by kernel_rfl) Tryd.func4 (by kernel_rfl)
    (of_decide_eq_true (by kernel_rfl)) (by unfold Func.isWrapper; first | (rw [if_pos (by decide +kernel)]; kernel_rfl) | (rw [if_neg (by decide +kernel)]; exact ⟨rfl, rfl⟩))
    (fun os started H enc _ F => by rw [OpenClaim.pre_eq_preRow]; exact lifted os started H enc F)

theorem plain (f : FuncId) (fn : Func) (hf : Tryd.pinned.checked.prog.funcNamed "loop.example/g00873/laws.FnExactSaveNames" = some f) (hfn : Tryd.pinned.checked.prog.funcs[f]? = some fn) :
    false = Tryd.pinned.checked.prog.looks [] ∧ ∀ (j : Nat) t, fn.params[j]? = some t → Tryd.pinned.checked.prog.wantsStandIn t = false := by
  obtain rfl : f = 4 := Option.some.inj ((show Tryd.prog.funcNamed "loop.example/g00873/laws.FnExactSaveNames" = some 4 by kernel_rfl).symm.trans hf) |>.symm
  obtain rfl : fn = Tryd.f4 := (Option.some.inj (Tryd.func4.symm.trans hfn)).symm
  refine ⟨by kernel_rfl, fun j t ht => ?_⟩
  rw [Tryd.params4] at ht
  have ht' : t = 26 ∨ t = 41 := by simpa using Array.mem_of_getElem? ht
  rcases ht' with rfl | rfl
  · exact (show Tryd.prog.wantsStandIn 26 = false by kernel_rfl)
  · exact (show Tryd.prog.wantsStandIn 41 = false by kernel_rfl)

theorem proved : Rows.FnExactSaveNamesCardSaid :=
  Claim7.holds_tied_plain_at .later [] _ _ _ _ over (fun _ h => by cases h) (by kernel_rfl) (fun _ h => by cases h) fnExactSaveNames_row_tie rfl ⟨rfl, rfl⟩ (by kernel_rfl) rfl plain (by kernel_rfl)
#print axioms proved
end Go.Proofs.YtflhjcdabbomiaaDoor.fnExactSaveNames
