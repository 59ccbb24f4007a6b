/- Rows of Binding of one's own; laws.markBindingS, heldBindingS. No condition. Contract: SaveNames (spec). No condition. Contract: firstWhere over strings with SaveNames' test: whether a name is none. Condition: the table holds what the program's text lays. A list whose names rise: where a name stands or would stand. Plain. Contract: sort.Search over a test that is false ahead of m and true from m on. No condition but that it is short. Contracts: place of the program at bindings (sort.Search through a closure), and the closure. No condition but that the names rise. Contracts: find, clone, valueOf of the program at bindings. No condition but that the names rise. Contract: SaveNames (impl). Condition: the table holds what the program's text lays. What a mark may turn; rows of strings that can be marked. No condition. toBindingS of the laws: a row of its own. No condition. toStringS of the laws: a row of its own. No condition. -/
import Derived.Test.YtflhjcdabbomiaaDoorSaveNamesM3
import Derived.Test.YtflhjcdabbomiaaDoorSaveNamesM4
import Derived.Laws.OwnMore
import Derived.Maps.AppendAt
import Derived.IntWalk
import Derived.Test.YtflhjcdabbomiaaDoorSaveNamesM1
import Derived.Sort.Walk0
import Derived.Laws.Tables
import Derived.Laws.Rows
namespace Go.Proofs.YtflhjcdabbomiaaDoor
open Go Go.RowKit

def cellsBd : List Bd → List Value
  | [] => []
  | x :: xs => x.vs ++ cellsBd xs
theorem Bd.vs_len (x : Bd) : x.vs.length = 5 := rfl
theorem cellsBd_len : ∀ xs : List Bd, (cellsBd xs).length = xs.length * 5
  | [] => rfl
  | x :: xs => by rw [cellsBd, List.length_append, cellsBd_len xs, Bd.vs_len, List.length_cons]; omega
theorem cellsBd_append : ∀ xs ys : List Bd, cellsBd (xs ++ ys) = cellsBd xs ++ cellsBd ys
  | [], ys => rfl
  | x :: xs, ys => by rw [List.cons_append, cellsBd, cellsBd, cellsBd_append xs ys, List.append_assoc]
theorem cellsBd_at {x : Bd} {q : Nat} {v : Value} (hv : x.vs[q]? = some v) : ∀ {xs : List Bd} {j : Nat}, xs[j]? = some x → (cellsBd xs)[j * 5 + q]? = some v
  | [], j, h => by simp at h
  | y :: ys, 0, h => by
    simp only [List.getElem?_cons_zero, Option.some.injEq] at h
    subst h
    have hq : q < 5 := (List.getElem?_eq_some_iff.1 hv).1
    rw [cellsBd, List.getElem?_append_left (by rw [Bd.vs_len]; omega), Nat.zero_mul, Nat.zero_add]
    exact hv
  | y :: ys, j + 1, h => by
    rw [cellsBd, List.getElem?_append_right (by rw [Bd.vs_len]; omega), Bd.vs_len, show (j + 1) * 5 + q - 5 = j * 5 + q by omega]
    exact cellsBd_at hv (by simpa using h)
/-- A list with cells stored from place o on. -/
def putV : List Value → Nat → List Value → List Value
  | cs, _, [] => cs
  | cs, o, v :: r => putV (cs.set o v) (o + 1) r
theorem putV_skip (a : List Value) : ∀ (vs b : List Value) (o : Nat), a.length ≤ o → putV (a ++ b) o vs = a ++ putV b (o - a.length) vs
  | [], _, _, _ => rfl
  | v :: r, b, o, h => by
    rw [putV, putV, List.set_append_right _ _ h, putV_skip a r _ _ (by omega)]
    rw [show o + 1 - a.length = o - a.length + 1 by omega]
theorem putV_head (b : List Value) : ∀ (vs a : List Value) (p : List Value), a.length = vs.length → putV (p ++ (a ++ b)) p.length vs = p ++ (vs ++ b)
  | [], a, p, h => by rw [List.eq_nil_of_length_eq_zero h]; rfl
  | v :: r, [], p, h => by simp at h
  | v :: r, u :: a, p, h => by
    rw [putV, List.cons_append, List.set_append_right _ _ (Nat.le_refl _), Nat.sub_self, List.set_cons_zero]
    have := putV_head b r a (p ++ [v]) (by simpa using h)
    rw [List.length_append, List.length_singleton, List.append_assoc, List.singleton_append] at this
    rw [this, List.append_assoc]
    rfl
theorem cellsBd_set (y : Bd) : ∀ (xs : List Bd) (j : Nat), j < xs.length → putV (cellsBd xs) (j * 5) y.vs = cellsBd (xs.set j y)
  | [], j, h => by simp at h
  | x :: xs, 0, _ => by
    rw [cellsBd, Nat.zero_mul, List.set_cons_zero, cellsBd]
    exact putV_head (cellsBd xs) y.vs x.vs [] (by rw [Bd.vs_len, Bd.vs_len])
  | x :: xs, j + 1, h => by
    rw [cellsBd, putV_skip _ _ _ _ (by rw [Bd.vs_len]; omega), Bd.vs_len, show (j + 1) * 5 - 5 = j * 5 by omega, cellsBd_set y xs j (by simpa using h), List.set_cons_succ, cellsBd]

/-- A row of one's own. -/
abbrev OwnBd (w : World) (B : Nat) (v : Value) (xs : List Bd) : Prop := w.ownsRow B 63 5 v xs.length (cellsBd xs)
/-- The cells of a row that is handed back. -/
def RowBd (w : World) (B C : Nat) (A : Option Addr) (xs : List Bd) : Prop :=
  0 < xs.length → ∃ g cs, A = some ⟨g, 0, none⟩ ∧ B ≤ g ∧ g < C ∧ RW 63 w g cs ∧ xs.length * 5 ≤ cs.size ∧ ∀ (j q : Nat) (x : Bd) (v : Value), xs[j]? = some x → x.vs[q]? = some v → cs[j * 5 + q]? = some v
theorem RowBd.below {w w' : World} {B C D : Nat} {A : Option Addr} {xs : List Bd} (h : RowBd w B C A xs) (hb : Below D w w') (hD : C ≤ D) : RowBd w' B C A xs := fun hn => by
  obtain ⟨g, cs, e, h1, h2, h3, h4, h5⟩ := h hn
  exact ⟨g, cs, e, h1, h2, h3.below hb (by omega), h4, h5⟩
theorem RowBd.toI {w : World} {B C : Nat} {A : Option Addr} {xs : List Bd} (h : RowBd w B C A xs) (hm : xs.length ≤ maxLen) (hs0 : ∀ x ∈ xs, x.name_.size ≤ maxLen) (hs3 : ∀ x ∈ xs, x.text_.size ≤ maxLen) : BdI w C A xs.length xs := ⟨rfl, hm, fun hn => by
  obtain ⟨g, cs, e, h1, h2, h3, h4, h5⟩ := h hn
  refine ⟨g, 0, e, h2, fun j x hx => ⟨?_, hs0 x (List.mem_of_getElem? hx), hs3 x (List.mem_of_getElem? hx)⟩⟩
  rw [Nat.zero_add]
  exact ⟨(h3.cell _).trans (h5 j 0 x _ hx rfl), (h3.cell _).trans (h5 j 1 x _ hx rfl), (h3.cell _).trans (h5 j 2 x _ hx rfl), (h3.cell _).trans (h5 j 3 x _ hx rfl), (h3.cell _).trans (h5 j 4 x _ hx rfl)⟩⟩
theorem ownBd_row {w : World} {B : Nat} {v : Value} {xs : List Bd} (h : OwnBd w B v xs) : ∃ A c, v = .slice A xs.length c ∧ RowBd w B w.heap.size A xs := by
  rcases h.2 with ⟨rfl, h0⟩ | ⟨g, cap, cur, rfl, hg, hh, hnc, _, hcs, ht⟩
  · exact ⟨none, 0, by rw [h0], fun hn => by omega⟩
  · refine ⟨some ⟨g, 0, none⟩, cap, rfl, fun _ => ⟨g, cur, rfl, hg, RW.lt hh, hh, by rw [hcs]; exact Nat.mul_le_mul_right _ hnc, fun j q x v hx hq => ?_⟩⟩
    have hj : j < xs.length := (List.getElem?_eq_some_iff.1 hx).1
    have hq2 : q < 5 := (List.getElem?_eq_some_iff.1 hq).1
    have h1 := congrArg (·[j * 5 + q]?) ht
    simp only [List.getElem?_take, if_pos (show j * 5 + q < xs.length * 5 by omega), cellsBd_at hq hx] at h1
    rw [← h1, Array.getElem?_toList]
theorem ownBd_keep {w w' : World} {B : Nat} {v : Value} {xs : List Bd} (h : OwnBd w B v xs) (hb : Below w.heap.size w w') : OwnBd w' B v xs :=
  h.kept ⟨hb.os, hb.tape, hb.output, hb.size, fun j hj _ => hb.block j hj⟩ (row := none) (by cases hv : v.ownBlock <;> simp)
theorem ownBd_snoc {w : World} {B n : Nat} {v : Value} {xs : List Bd} (x : Bd) (h : w.ownsRow B 63 5 v (n + 1) (cellsBd xs ++ x.vs)) (hn : xs.length = n) : OwnBd w B v (xs ++ [x]) := by
  unfold OwnBd
  rw [cellsBd_append, List.length_append, hn]
  show World.ownsRow _ _ _ _ _ (n + 1) (cellsBd xs ++ (x.vs ++ []))
  rw [List.append_nil]
  exact h
theorem ownBd_ge {w : World} {B n : Nat} {v : Value} {cs : List Value} (h : w.ownsRow B 63 5 v n cs) : ∀ k, v.ownBlock = some k → B ≤ k := by
  intro k hk
  rcases h.2 with ⟨rfl, _⟩ | ⟨g, cap, cur, rfl, hg, _⟩
  · cases hk
  · cases hk; exact hg
/-- A row that is not empty: its block, its cells. -/
theorem ownBd_some {w : World} {B : Nat} {v : Value} {xs : List Bd} (h : OwnBd w B v xs) (hn : 0 < xs.length) : ∃ g c, v = .slice (some ⟨g, 0, none⟩) xs.length c ∧ B ≤ g ∧ g < w.heap.size ∧
    ∀ (j q : Nat) (x : Bd) (u : Value), xs[j]? = some x → x.vs[q]? = some u → w.cell? ⟨g, j * 5 + q, none⟩ = some u ∧ w.frozen? ⟨g, j * 5 + q, none⟩ = false := by
  obtain ⟨A, c, e, hr⟩ := ownBd_row h
  obtain ⟨g, cs, rfl, h1, h2, h3, h4, h5⟩ := hr hn
  exact ⟨g, c, e, h1, h2, fun j q x u hx hu => ⟨(h3.cell _).trans (h5 j q x u hx hu), h3.frozen _⟩⟩
theorem ownBd_putV {B g c n : Nat} : ∀ (vs cs : List Value) (o : Nat) {w : World}, w.ownsRow B 63 5 (.slice (some ⟨g, 0, none⟩) n c) n cs → (w.setCells g o vs).ownsRow B 63 5 (.slice (some ⟨g, 0, none⟩) n c) n (putV cs o vs)
  | [], cs, o, w, h => h
  | v :: r, cs, o, w, h => ownBd_putV r (cs.set o v) (o + 1) (World.ownsRow.stored h o v).1
/-- An element is stored anew. -/
theorem ownBd_set {w : World} {B g c : Nat} {xs : List Bd} {j : Nat} (y : Bd) (h : OwnBd w B (.slice (some ⟨g, 0, none⟩) xs.length c) xs) (hj : j < xs.length) :
    OwnBd (w.setCells g (j * 5) y.vs) B (.slice (some ⟨g, 0, none⟩) xs.length c) (xs.set j y) := by
  unfold OwnBd
  rw [List.length_set, ← cellsBd_set y xs j hj]
  exact ownBd_putV y.vs _ _ h

theorem gb_refl (w : World) (r : Option Nat) : w.grownBy w r := ⟨rfl, rfl, rfl, Nat.le_refl _, fun _ _ _ => rfl⟩
theorem gb_trans {a b c : World} {r : Option Nat} (h : a.grownBy b r) (h' : b.grownBy c r) : a.grownBy c r :=
  ⟨h'.os.trans h.os, h'.tape.trans h.tape, h'.output.trans h.output, Nat.le_trans h.size h'.size, fun j hj hne => (h'.block j (Nat.lt_of_lt_of_le hj h.size) hne).trans (h.block j hj hne)⟩
theorem gb_below {w w' : World} (h : Below w.heap.size w w') (r : Option Nat) : w.grownBy w' r := ⟨h.os, h.tape, h.output, h.size, fun j hj _ => h.block j hj⟩
theorem gb_set (w : World) (g i : Nat) (v : Value) : w.grownBy (w.setCell ⟨g, i, none⟩ v) (some g) :=
  ⟨rfl, rfl, rfl, by rw [size_set]; exact Nat.le_refl _, fun j _ hne => Below.heap_setCell w ⟨g, i, none⟩ v j (fun e => hne (by rw [e]))⟩
theorem gb_base {w w' : World} {g B : Nat} (h : w.grownBy w' (some g)) (hB : B ≤ g) (hw : B ≤ w.heap.size) : Below B w w' := ⟨h.os, h.tape, h.output, h.size, fun j hj => h.block j (by omega) (fun e => by have := Option.some.inj e; omega)⟩
theorem digits_size : ∀ (n k : Nat) (acc : ByteArray), k < 10 ^ n → (digitsOf k acc).size ≤ n + acc.size
  | 0, k, acc, h => by
    obtain rfl : k = 0 := by simpa using h
    rw [digitsOf_zero]
    omega
  | n + 1, k, acc, h => by
    by_cases hk : k = 0
    · rw [hk, digitsOf_zero]; omega
    · rw [digitsOf_step (by omega)]
      have := digits_size n (k / 10) (⟨#[48 + UInt8.ofNat (k % 10)]⟩ ++ acc) (by rw [Nat.pow_succ] at h; omega)
      rw [ByteArray.size_append] at this
      have e : (⟨#[48 + UInt8.ofNat (k % 10)]⟩ : ByteArray).size = 1 := rfl
      omega
theorem mark_size {k : Nat} (h : k < 10 ^ 9) : (markT k).size ≤ maxLen := by
  have := digits_size 9 k ⟨#[]⟩ h
  unfold markT
  rw [ByteArray.size_append]
  have e1 : (⟨#[109]⟩ : ByteArray).size = 1 := rfl
  have e2 : (⟨#[]⟩ : ByteArray).size = 0 := rfl
  unfold maxLen
  omega

/-- The marks, from the number k0 on. -/
def markBd (k0 i : Nat) : Bd := ⟨markT (k0 + i * 5), ((k0 + i * 5 + 1 : Nat) : Int), ((k0 + i * 5 + 2 : Nat) : Int), markT (k0 + i * 5 + 3), ((k0 + i * 5 + 4 : Nat) : Int)⟩
def markBds (k0 n : Nat) : List Bd := (List.range n).map (markBd k0)
theorem markBds_len (k0 n : Nat) : (markBds k0 n).length = n := by simp [markBds]
theorem markBds_at {k0 n j : Nat} (h : j < n) : (markBds k0 n)[j]? = some (markBd k0 j) := by simp [markBds, List.getElem?_range h]
/-- The elements of block g ahead of j are marked. -/
def MarkedBd (w : World) (g k0 j n : Nat) : Prop := ∃ cs, RW 63 w g cs ∧ n * 5 ≤ cs.size ∧ ∀ (i q : Nat) (v : Value), i < j → (markBd k0 i).vs[q]? = some v → cs[i * 5 + q]? = some v

theorem setsBd_new {cs : Array Value} {b : Nat} {v0 v1 v2 v3 v4 : Value} (hb : b + 4 < cs.size) : ∀ (q : Nat) (v : Value), [v0, v1, v2, v3, v4][q]? = some v → (((((cs.setIfInBounds (b) v0).setIfInBounds (b + 1) v1).setIfInBounds (b + 2) v2).setIfInBounds (b + 3) v3).setIfInBounds (b + 4) v4)[b + q]? = some v := by
  intro q v h
  have e : (((((cs.setIfInBounds (b) v0).setIfInBounds (b + 1) v1).setIfInBounds (b + 2) v2).setIfInBounds (b + 3) v3).setIfInBounds (b + 4) v4) = putL cs b [v0, v1, v2, v3, v4] := rfl
  rw [e]
  exact putL_new _ _ _ _ _ (by simp; omega) h
theorem setsBd_old {cs : Array Value} {b i : Nat} {v0 v1 v2 v3 v4 : Value} (h : i < b) : (((((cs.setIfInBounds (b) v0).setIfInBounds (b + 1) v1).setIfInBounds (b + 2) v2).setIfInBounds (b + 3) v3).setIfInBounds (b + 4) v4)[i]? = cs[i]? := putL_old [v0, v1, v2, v3, v4] cs b i h

set_option maxHeartbeats 4000000 in
set_option maxRecDepth 100000 in
theorem markBindingS_any (g n c k0 : Nat) (cs : Array Value) (W : World) (hs : RW 63 W g cs) (hcs : n * 5 ≤ cs.size) (h0 : 0 < k0) (hk : k0 + n * 5 ≤ 16777000) :
    Calls Tryd.prog 19 #[.slice (some ⟨g, 0, none⟩) n c, .int .i64 k0] W fun e w' => e = .returned (.int .i64 ((k0 + n * 5 : Nat) : Int)) ∧ W.grownBy w' (some g) ∧ MarkedBd w' g k0 n n := by
  have HG : Hid (g < W.heap.size) := hs.lt
  have HM : Hid (MarkedBd W g k0 0 n) := ⟨cs, hs, hcs, fun i q v hi => absurd hi (by omega)⟩
  clear hs hcs
  go_enter Tryd.func19, Tryd.ntmps19
  go_wp2
  go_loopw [1, 5] (fun q i wr => ∃ j : Nat, j ≤ n ∧ i = .int .i64 j ∧ q = .int .i64 ((k0 + j * 5 : Nat) : Int) ∧ Hid (W.grownBy wr (some g)) ∧ Hid (MarkedBd wr g k0 j n)) (fun _ i _ => n - (intOf i).toNat)
  case atStart => exact ⟨0, Nat.zero_le _, rfl, by simp, gb_refl _ _, HM⟩
  case round =>
    obtain ⟨j, hj, rfl, rfl, HW, HJ⟩ := hrel
    by_cases hlt : j < n
    · obtain ⟨cs, hs, hcs, hm⟩ := HJ.out
      have HSB := Lib.hid hs
      have HMM := Lib.hid hm
      have HCS := Lib.hid hcs
      have LZ := Lib.hid hs.lt
      have hcs2 : j * 5 + 4 < cs.size := by omega
      clear hs hm
      have b0 : (0 : Int) ≤ (j : Int) := by omega
      have b1 : (j : Int) < (n : Int) := by omega
      obtain ⟨t, ht⟩ : ∃ t, k0 + j * 5 = t := ⟨_, rfl⟩
      have HT := Lib.hid ht
      rw [ht]
      have ht0 : 0 < t := by omega
      have ht1 : t + 5 ≤ 16777000 := by omega
      clear ht
      have HMT0 : Hid (∀ w, Calls Tryd.prog 40 #[.int .i64 ((t : Int))] w fun e w' => e = .returned (.string (markT (t))) ∧ Below w.heap.size w w') := fun w => by
        have := markText_any (t) w (by omega) (by omega)
        rw [show ((t : Nat) : Int) = (t : Int) by omega] at this
        exact this
      have HMT3 : Hid (∀ w, Calls Tryd.prog 40 #[.int .i64 ((t : Int) + 1 + 1 + 1)] w fun e w' => e = .returned (.string (markT (t + 3))) ∧ Below w.heap.size w w') := fun w => by
        have := markText_any (t + 3) w (by omega) (by omega)
        rw [show ((t + 3 : Nat) : Int) = (t : Int) + 1 + 1 + 1 by omega] at this
        exact this
      go_wp2_with (first
        | (go_at_call 40; refine (HMT0.out _).mono ?_; rintro e w0 ⟨rfl, hb⟩; have HB0 := Lib.hid hb; have HS0 : Hid (RW 63 w0 g cs) := HSB.out.below hb (by first | exact LZ.out | (simp [World.setCell]; exact LZ.out)); have LZ0 := Lib.hid HS0.out.lt; have y0 := (HS0.out.cell (j * 5)).trans (Array.getElem?_eq_getElem (by (try simp only [Array.size_setIfInBounds]); omega)); have x0 := HS0.out.frozen (j * 5); have y1 := (HS0.out.cell (j * 5 + 1)).trans (Array.getElem?_eq_getElem (by (try simp only [Array.size_setIfInBounds]); omega)); have x1 := HS0.out.frozen (j * 5 + 1); have y2 := (HS0.out.cell (j * 5 + 2)).trans (Array.getElem?_eq_getElem (by (try simp only [Array.size_setIfInBounds]); omega)); have x2 := HS0.out.frozen (j * 5 + 2); clear hb HMT0)
        | (go_at_call 40; have tk := HS0; clear tk; refine (HMT3.out _).mono ?_; rintro e w3 ⟨rfl, hb⟩; have HB3 := Lib.hid hb; have HS3 : Hid (RW 63 w3 g (((cs.setIfInBounds (j * 5) (.string (markT (t)))).setIfInBounds (j * 5 + 1) (.int .i64 ((t : Int) + 1))).setIfInBounds (j * 5 + 2) (.int .i64 ((t : Int) + 1 + 1)))) := (((HS0.out.set_ _ _).set_ _ _).set_ _ _).below hb (by first | exact LZ0.out | (simp [World.setCell]; exact LZ0.out)); have LZ3 := Lib.hid HS3.out.lt; have y3 := (HS3.out.cell (j * 5 + 3)).trans (Array.getElem?_eq_getElem (by (try simp only [Array.size_setIfInBounds]); omega)); have x3 := HS3.out.frozen (j * 5 + 3); have y4 := (HS3.out.cell (j * 5 + 4)).trans (Array.getElem?_eq_getElem (by (try simp only [Array.size_setIfInBounds]); omega)); have x4 := HS3.out.frozen (j * 5 + 4); clear hb HMT3 y0 x0 y1 x1 y2 x2))
      go_roundw
      case rel =>
        refine ⟨j + 1, by omega, by go_num, ?_, ?_, ?_⟩
        · have := HT.out
          congr 1
          omega
        · exact Lib.hid (gb_trans HW.out (gb_trans (gb_trans (gb_trans (gb_trans (gb_trans (gb_trans (gb_trans (gb_refl _ _) (gb_below HB0.out _)) (gb_set _ _ _ _)) (gb_set _ _ _ _)) (gb_set _ _ _ _)) (gb_below HB3.out _)) (gb_set _ _ _ _)) (gb_set _ _ _ _)))
        · refine ⟨_, ((HS3.out.set_ _ _).set_ _ _), by simpa using HCS.out, fun i q v hi hv => ?_⟩
          by_cases e : i = j
          · subst e
            refine setsBd_new (by omega) q v ?_
            rw [← hv]
            show _ = (markBd k0 i).vs[q]?
            unfold markBd Bd.vs
            rw [HT.out]
            dsimp only
            skip; (try push_cast); rfl
          · rw [setsBd_old (by have := (List.getElem?_eq_some_iff.1 hv).1; have := Bd.vs_len (markBd k0 i); omega)]
            exact HMM.out i q v (by omega) hv
      case measure => simp [intOf]; omega
    · have HN : Hid (j = n) := by show _ = _; omega
      go_wp2_with fail
      go_ret
      refine ⟨i64_ret (by rw [HN.out]), HW.out, ?_⟩
      have := HJ.out
      rw [HN.out] at this
      exact this

/-- An element where it lies, and what came behind. -/
def HlBd (wr : World) (b o : Nat) (x0 : ByteArray) (x1 : Int) (x2 : Int) (x3 : ByteArray) (x4 : Int) (w : World) : Prop := (w.cell? ⟨b, o, none⟩ = some (.string x0) ∧ w.cell? ⟨b, o + 1, none⟩ = some (.int .i64 x1) ∧ w.cell? ⟨b, o + 2, none⟩ = some (.int .i64 x2) ∧ w.cell? ⟨b, o + 3, none⟩ = some (.string x3) ∧ w.cell? ⟨b, o + 4, none⟩ = some (.int .i64 x4)) ∧ Below wr.heap.size wr w ∧ b < wr.heap.size
theorem HlBd.grow {wr w w' : World} {b o : Nat} {x0 : ByteArray} {x1 : Int} {x2 : Int} {x3 : ByteArray} {x4 : Int} (h : HlBd wr b o x0 x1 x2 x3 x4 w) (hb : Below w.heap.size w w') : HlBd wr b o x0 x1 x2 x3 x4 w' :=
  ⟨BdAt.below (x := ⟨x0, x1, x2, x3, x4⟩) h.1 hb (Nat.lt_of_lt_of_le h.2.2 h.2.1.size), h.2.1.trans (hb.mono h.2.1.size), h.2.2⟩
abbrev FlatHlBd (wr : World) (b o : Nat) (x0 : ByteArray) (x1 : Int) (x2 : Int) (x3 : ByteArray) (x4 : Int) (w : World) : Prop := (w.cell? ⟨b, o, none⟩ = some (.string x0) ∧ w.cell? ⟨b, o + 1, none⟩ = some (.int .i64 x1) ∧ w.cell? ⟨b, o + 2, none⟩ = some (.int .i64 x2) ∧ w.cell? ⟨b, o + 3, none⟩ = some (.string x3) ∧ w.cell? ⟨b, o + 4, none⟩ = some (.int .i64 x4)) ∧ HlBd wr b o x0 x1 x2 x3 x4 w
theorem HlBd.flat {wr w : World} {b o : Nat} {x0 : ByteArray} {x1 : Int} {x2 : Int} {x3 : ByteArray} {x4 : Int} (h : HlBd wr b o x0 x1 x2 x3 x4 w) : FlatHlBd wr b o x0 x1 x2 x3 x4 w := ⟨h.1, h⟩

set_option maxHeartbeats 4000000 in
set_option maxRecDepth 100000 in
theorem heldBindingS_any (A : Option Addr) (n c k0 : Nat) (W : World) (ha : BdI W W.heap.size A n (markBds k0 n)) (h0 : 0 < k0) (hk : k0 + n * 5 ≤ 16777000) :
    Calls Tryd.prog 20 #[.slice A n c, .int .i64 k0] W fun e w' => e = .returned (.int .i64 ((k0 + n * 5 : Nat) : Int)) ∧ Below W.heap.size W w' := by
  have HA := Lib.hid ha
  have hnm := ha.2.1
  unfold maxLen at hnm
  clear ha
  go_enter Tryd.func20, Tryd.ntmps20
  go_wp2
  go_loopw [1, 5] (fun q i wr => ∃ j : Nat, j ≤ n ∧ i = .int .i64 j ∧ q = .int .i64 ((k0 + j * 5 : Nat) : Int) ∧ Hid (Below W.heap.size W wr)) (fun _ i _ => n - (intOf i).toNat)
  case atStart => exact ⟨0, Nat.zero_le _, rfl, by simp, Below.refl _ _⟩
  case round =>
    obtain ⟨j, hj, rfl, rfl, HW⟩ := hrel
    by_cases hlt : j < n
    · obtain ⟨b, off, x, rfl, hg, hx, hat, _⟩ := (HA.out.below HW.out).at_ hlt
      rw [markBds_at hlt, Option.some.injEq] at hx
      subst hx
      unfold markBd BdAt at hat
      dsimp only at hat
      obtain ⟨t, ht⟩ : ∃ t, k0 + j * 5 = t := ⟨_, rfl⟩
      have HT := Lib.hid ht
      rw [ht] at hat ⊢
      have ht0 : 0 < t := by omega
      have ht1 : t + 5 ≤ 16777000 := by omega
      obtain ⟨o, ho⟩ : ∃ o, off + j * 5 = o := ⟨_, rfl⟩
      rw [ho] at hat
      have hg2 : b < wr.heap.size := Nat.lt_of_lt_of_le hg HW.out.size
      have HMT0 : Hid (∀ w, Calls Tryd.prog 40 #[.int .i64 ((t : Int))] w fun e w' => e = .returned (.string (markT (t))) ∧ Below w.heap.size w w') := fun w => by
        have := markText_any (t) w (by omega) (by omega)
        rw [show ((t : Nat) : Int) = (t : Int) by omega] at this
        exact this
      have HMT3 : Hid (∀ w, Calls Tryd.prog 40 #[.int .i64 ((t : Int) + 1 + 1 + 1)] w fun e w' => e = .returned (.string (markT (t + 3))) ∧ Below w.heap.size w w') := fun w => by
        have := markText_any (t + 3) w (by omega) (by omega)
        rw [show ((t + 3 : Nat) : Int) = (t : Int) + 1 + 1 + 1 by omega] at this
        exact this
      generalize markT (t) = x0 at hat HMT0
      generalize markT (t + 3) = x3 at hat HMT3
      have HL : Hid (HlBd wr b o x0 ((t : Int) + 1) ((t : Int) + 1 + 1) x3 ((t : Int) + 1 + 1 + 1 + 1) wr) := by
        show HlBd wr b o x0 ((t : Int) + 1) ((t : Int) + 1 + 1) x3 ((t : Int) + 1 + 1 + 1 + 1) wr
        unfold HlBd
        push_cast at hat
        exact ⟨hat, Below.refl _ _, hg2⟩
      obtain ⟨p0, p1, p2, p3, p4⟩ := HL.out.1
      clear hat hg hg2
      clear ht
      have b0 : (0 : Int) ≤ (j : Int) := by omega
      have b1 : (j : Int) < (n : Int) := by omega
      go_wp2_with fail
      have HD0 := Lib.hid (HL.out.grow (Below.refl _ _).drew)
      go_region_held3 (fun w' => FlatHlBd wr b o x0 ((t : Int) + 1) ((t : Int) + 1 + 1) x3 ((t : Int) + 1 + 1 + 1 + 1) w')
        (first | exact HD0.out.flat | exact HE0.out.flat | go_keep)
        ((go_at_call 40; have tk := HD0; clear tk; refine (HMT0.out _).mono ?_; rintro e w0 ⟨rfl, hb⟩; have HE0 := Lib.hid (HD0.out.grow hb); clear hb))
      go_split_ands
      go_wp2_with fail
      have HD3 := Lib.hid (HE0.out.grow (Below.refl _ _).drew)
      go_region_held3 (fun w' => FlatHlBd wr b o x0 ((t : Int) + 1) ((t : Int) + 1 + 1) x3 ((t : Int) + 1 + 1 + 1 + 1) w')
        (first | exact HD3.out.flat | exact HE3.out.flat | go_keep)
        ((go_at_call 40; have tk := HD3; clear tk; refine (HMT3.out _).mono ?_; rintro e w3 ⟨rfl, hb⟩; have HE3 := Lib.hid (HD3.out.grow hb); clear hb))
      go_split_ands
      go_wp2_with fail
      go_roundw
      case rel =>
        refine ⟨j + 1, by omega, by go_num, ?_, Lib.hid (HW.out.trans (HE3.out.2.1.mono HW.out.size))⟩
        have := HT.out
        congr 1
        omega
      case measure => simp [intOf]; omega
    · have HN : Hid (j = n) := by show _ = _; omega
      go_wp2_with fail
      go_ret
      exact ⟨i64_ret (by rw [HN.out]), HW.out⟩

/-- What toBindingS answers: a row of its own. -/
def ToRowBd (xs : List Bd) (n : Nat) (W : World) (e : Ending) (w' : World) : Prop :=
  e = .returned (.slice (some ⟨W.heap.size, 0, none⟩) n n) ∧ Hid (FilledBd w' W.heap.size n n xs ∧ W.heap.size < w'.heap.size ∧ Below W.heap.size W w')
set_option maxHeartbeats 2000000 in
set_option maxRecDepth 100000 in
theorem toBindingS_row (A : Option Addr) (n c : Nat) (xs : List Bd) (W : World) (hr : BdI W W.heap.size A n xs) (hn : n ≤ 1048576) :
    Calls Tryd.prog 27 #[.slice A n c] W (ToRowBd xs n W) := by
  obtain ⟨i0, hi, hz0, hz1, hz2⟩ := info_parts infoBd
  have HR := Lib.hid hr
  have h1 : (n : Int) ≤ 1048576 := by omega
  clear hr
  go_enter Tryd.func27, Tryd.ntmps27
  go_wp2_with (at_make; refine wpList_make_full _ rfl _ _ 32 rfl W.heap.size 63 i0 (.agg #[.string ⟨#[]⟩, .int .i64 0, .int .i64 0, .string ⟨#[]⟩, .int .i64 0]) 5 Tryd.underlying32 hi hz0 hz1 .i64 .i64 n n n rfl rfl rfl rfl (by rw [hz2]; omega) (by unfold maxLen; omega) (Nat.le_refl _) ?_)
  intro w1 hown hgrow
  have HB1 : Hid (Below W.heap.size W w1) := below_grown_none hgrow
  obtain ⟨cs, hcs, hcn⟩ := ownBd hown
  have HG : Hid (W.heap.size < w1.heap.size) := hcs.lt
  have HM : Hid (FilledBd w1 W.heap.size 0 n xs) := ⟨cs, hcs, hcn, fun i q x v hi => absurd hi (by omega)⟩
  clear hown hgrow hcs hcn hi hz0 hz1 hz2
  go_wp2_with fail
  go_loopw [4] (fun i wr => ∃ j : Nat, j ≤ n ∧ i = .int .i64 j ∧ Hid (Below W.heap.size W wr) ∧ Hid (W.heap.size < wr.heap.size) ∧ Hid (FilledBd wr W.heap.size j n xs)) (fun i _ => n - (intOf i).toNat)
  case atStart => exact ⟨0, Nat.zero_le _, rfl, HB1, HG, HM⟩
  case round =>
    obtain ⟨j, hj, rfl, HW, HZ, HJ⟩ := hrel
    by_cases hlt : j < n
    · obtain ⟨b, off, x, rfl, hg, hx, ⟨q0, q1, q2, q3, q4⟩, hxs⟩ := (HR.out.below HW.out).at_ hlt
      obtain ⟨x0, x1, x2, x3, x4⟩ := x
      dsimp only at q0 q1 q2 q3 q4 hxs
      have HX := Lib.hid hx
      have HLT := Lib.hid hlt
      clear hx hxs hg
      have b0 : (0 : Int) ≤ (j : Int) := by omega
      have b1 : (j : Int) < (n : Int) := by omega
      go_wp2_with (first | (go_at_call 50; refine (toBinding_any ⟨x0, x1, x2, x3, x4⟩ _).mono ?_; rintro e w2 ⟨rfl, hb⟩; have HF := Lib.hid (HJ.out.below hb); have hlt2 := HLT.out; have HF2 : Hid (FilledBd (w2.setCells W.heap.size (j * 5) [.string x0, .int .i64 x1, .int .i64 x2, .string x3, .int .i64 x4]) W.heap.size (j + 1) n xs) := (by have k := HF.out.store HX.out hlt2; unfold Bd.vs at k; exact k); have HT : Hid (w2.there W.heap.size (j * 5) 5) := (by obtain ⟨cs, hr, hc, _⟩ := HF.out; exact hr.there (by omega)); have HW2 : Hid (Below W.heap.size W (w2.setCells W.heap.size (j * 5) [.string x0, .int .i64 x1, .int .i64 x2, .string x3, .int .i64 x4])) := ((HW.out.trans (hb.mono HW.out.size)).trans (below_cells (Nat.le_refl _) _ _ _)); have HZ2 : Hid (W.heap.size < (w2.setCells W.heap.size (j * 5) [.string x0, .int .i64 x1, .int .i64 x2, .string x3, .int .i64 x4]).heap.size) := (by obtain ⟨_, hr, _⟩ := HF2.out; exact hr.lt); have tk1 : True := trivial; clear hb hlt2 q0 q1 q2 q3 q4) | (clear tk1; refine wpList_store_mid rfl 63 (.tmp 21) (.tmp 20) rfl W.heap.size (j * 5) _ rfl rfl HT.out (by kernel_rfl) (by kernel_rfl) ?_; go_frame; clear HT; generalize w2.setCells W.heap.size (j * 5) [.string x0, .int .i64 x1, .int .i64 x2, .string x3, .int .i64 x4] = w3 at HF2 HW2 HZ2 ⊢))
      go_roundw
      case rel => exact ⟨j + 1, by omega, by go_num, HW2, HZ2, HF2⟩
      case measure => simp [intOf]; omega
    · have HN : Hid (j = n) := by show _ = _; omega
      go_wp2_with fail
      go_ret
      have h9 := HJ.out
      rw [HN.out] at h9
      exact ⟨rfl, Lib.hid ⟨h9, HZ.out, HW.out⟩⟩

theorem FilledBd.toI {w : World} {g n B : Nat} {xs : List Bd} (h : FilledBd w g n n xs) (hB : g < B) (hl : xs.length = n) (hm : n ≤ maxLen) (hs : ∀ (j : Nat) (x : Bd), xs[j]? = some x → x.name_.size ≤ maxLen ∧ x.text_.size ≤ maxLen) : BdI w B (some ⟨g, 0, none⟩) n xs := ⟨hl, hm, fun hn => by
  obtain ⟨cs, h1, h2, h3⟩ := h
  refine ⟨g, 0, rfl, hB, fun j x hx => ⟨?_, hs j x hx⟩⟩
  have hj : j < n := by have := (List.getElem?_eq_some_iff.1 hx).1; omega
  rw [Nat.zero_add]
  exact ⟨(h1.cell _).trans (h3 j 0 x _ hj hx rfl), (h1.cell _).trans (h3 j 1 x _ hj hx rfl), (h1.cell _).trans (h3 j 2 x _ hj hx rfl), (h1.cell _).trans (h3 j 3 x _ hj hx rfl), (h1.cell _).trans (h3 j 4 x _ hj hx rfl)⟩⟩
theorem BdI.sizes {w : World} {B n : Nat} {A : Option Addr} {xs : List Bd} (h : BdI w B A n xs) (j : Nat) (x : Bd) (hx : xs[j]? = some x) : x.name_.size ≤ maxLen ∧ x.text_.size ≤ maxLen := by
  have hj : j < n := by have := (List.getElem?_eq_some_iff.1 hx).1; have := h.1; omega
  obtain ⟨_, _, _, _, hc⟩ := h.2.2 (by omega)
  exact (hc j x hx).2
theorem FilledBd.below_ {w w' : World} {g n B : Nat} {xs : List Bd} (h : FilledBd w g n n xs) (hb : Below B w w') (hg : g < B) : FilledBd w' g n n xs := by
  obtain ⟨cs, h1, h2, h3⟩ := h
  exact ⟨cs, h1.below hb hg, h2, h3⟩
theorem RowBd.grown {w w' : World} {B C : Nat} {A : Option Addr} {xs : List Bd} {r : Option Nat} (h : RowBd w B C A xs) (hg : w.grownBy w' r) (hne : ∀ g, B ≤ g → g < C → some g ≠ r) : RowBd w' B C A xs := fun hn => by
  obtain ⟨g, cs, e, h1, h2, h3, h4, h5⟩ := h hn
  exact ⟨g, cs, e, h1, h2, (hg.block g h3.lt (hne g h1 h2)).trans h3, h4, h5⟩
theorem markedI {w : World} {g k0 n : Nat} (h : MarkedBd w g k0 n n) (hk : k0 + n * 5 ≤ 16777000) : BdI w w.heap.size (some ⟨g, 0, none⟩) n (markBds k0 n) := ⟨markBds_len _ _, by unfold maxLen; omega, fun hn => by
  obtain ⟨cs, h1, h2, h3⟩ := h
  refine ⟨g, 0, rfl, h1.lt, fun j x hx => ?_⟩
  have hj : j < n := by have := (List.getElem?_eq_some_iff.1 hx).1; rwa [markBds_len] at this
  rw [markBds_at hj, Option.some.injEq] at hx
  subst hx
  rw [Nat.zero_add]
  exact ⟨⟨(h1.cell _).trans (h3 j 0 _ hj rfl), (h1.cell _).trans (h3 j 1 _ hj rfl), (h1.cell _).trans (h3 j 2 _ hj rfl), (h1.cell _).trans (h3 j 3 _ hj rfl), (h1.cell _).trans (h3 j 4 _ hj rfl)⟩, mark_size (by omega), mark_size (by omega)⟩⟩
/-- A copy of an argument is marked, from 1 on. -/
theorem mark_filledBd {w : World} {g n : Nat} {xs : List Bd} (c : Nat) (h : FilledBd w g n n xs) (hn : n ≤ 1048576) :
    Calls Tryd.prog 19 #[.slice (some ⟨g, 0, none⟩) n c, .int .i64 1] w fun e w' => e = .returned (.int .i64 ((1 + n * 5 : Nat) : Int)) ∧ w.grownBy w' (some g) := by
  obtain ⟨cs, h1, h2, _⟩ := h
  exact (markBindingS_any g n c 1 cs w h1 h2 (by decide) (by omega)).mono fun e w' ⟨e1, e2, _⟩ => ⟨e1, e2⟩
theorem held_oneBd {w : World} {A : Option Addr} {n : Nat} (c : Nat) (h : BdI w w.heap.size A n (markBds 1 n)) (hn : n ≤ 1048576) :
    Calls Tryd.prog 20 #[.slice A n c, .int .i64 1] w fun e w' => e = .returned (.int .i64 ((1 + n * 5 : Nat) : Int)) ∧ Below w.heap.size w w' :=
  heldBindingS_any A n c 1 w h (by decide) (by omega)
set_option maxRecDepth 100000 in
/-- A row handed back is marked. -/
theorem mark_rowBd {w : World} {B C : Nat} {xs : List Bd} {A : Option Addr} (c : Nat) (h : RowBd w B C A xs) (hC : C ≤ w.heap.size) (hn : xs.length ≤ 1048576) :
    Calls Tryd.prog 19 #[.slice A xs.length c, .int .i64 1] w fun e w' => e = .returned (.int .i64 ((1 + xs.length * 5 : Nat) : Int)) ∧ BdI w' w'.heap.size A xs.length (markBds 1 xs.length) ∧ ∃ r, w.grownBy w' r ∧ ∀ g, r = some g → B ≤ g ∧ g < C := by
  rcases Nat.eq_zero_or_pos xs.length with h0 | h0
  · rw [h0]
    go_enter Tryd.func19, Tryd.ntmps19
    go_wp2
    go_loopw [1, 5] (fun q i wr => i = .int .i64 0 ∧ q = .int .i64 1 ∧ wr = w) (fun _ _ _ => 0)
    case atStart => exact ⟨rfl, rfl, rfl⟩
    case round =>
      obtain ⟨rfl, rfl, rfl⟩ := hrel
      go_wp2_with fail
      go_ret
      exact ⟨rfl, BdI.nil _ _ _, none, gb_refl _ _, fun g e => (by cases e)⟩
  · obtain ⟨g, cs, rfl, h1, h2, h3, h4, h5⟩ := h h0
    exact (markBindingS_any g xs.length c 1 cs w h3 h4 (by omega) (by omega)).mono fun e w' ⟨e1, e2, e3⟩ => ⟨e1, markedI e3 (by omega), some g, e2, fun g' e => by cases e; exact ⟨h1, h2⟩⟩

end Go.Proofs.YtflhjcdabbomiaaDoor

namespace Go.Proofs.YtflhjcdabbomiaaDoor
open Go Go.RowKit

/-- The binding of a name: its value in the list. -/
noncomputable def lkB (xs : List Bd) (s : ByteArray) : Bd := Classical.choose (show ∃ b : Bd, b.name_ = s ∧ LookP xs s b.kind_ b.num_ b.text_ b.ref_ from by
  obtain ⟨k, n, t, r, h⟩ := LookP.ex xs s
  exact ⟨⟨s, k, n, t, r⟩, rfl, h⟩)
theorem lkB_spec (xs : List Bd) (s : ByteArray) : (lkB xs s).name_ = s ∧ LookP xs s (lkB xs s).kind_ (lkB xs s).num_ (lkB xs s).text_ (lkB xs s).ref_ := by
  unfold lkB
  exact Classical.choose_spec (p := fun b : Bd => b.name_ = s ∧ LookP xs s b.kind_ b.num_ b.text_ b.ref_) _
/-- What SaveNames answers. -/
noncomputable def snV (x : Sc) (ns : List ByteArray) : List Bd := if (tt (ScOk x) && ns.all isNameB) = true then ns.map (lkB x.vars_) else []

theorem snV_bad {x : Sc} {ns : List ByteArray} (h : tt (ScOk x) = false) : snV x ns = [] := by unfold snV; rw [h]; rfl
theorem snV_name {x : Sc} {ns : List ByteArray} {k : Nat} {s : ByteArray} (h : ns[k]? = some s) (hz : isNameB s = false) : snV x ns = [] := by
  unfold snV
  rw [if_neg]
  intro e
  rw [Bool.and_eq_true, List.all_eq_true] at e
  have := e.2 s (List.mem_of_getElem? h)
  rw [hz] at this
  cases this
theorem snV_ok {x : Sc} {ns : List ByteArray} (h : tt (ScOk x) = true) (ha : ∀ s ∈ ns, isNameB s = true) : snV x ns = ns.map (lkB x.vars_) := by
  unfold snV
  rw [if_pos]
  rw [Bool.and_eq_true, List.all_eq_true]
  exact ⟨h, ha⟩
theorem RowBd.lower {w : World} {B B' C : Nat} {A : Option Addr} {xs : List Bd} (h : RowBd w B C A xs) (hB : B' ≤ B) : RowBd w B' C A xs := fun hn => by
  obtain ⟨g, cs, e, h1, h2, h3⟩ := h hn
  exact ⟨g, cs, e, Nat.le_trans hB h1, h2, h3⟩
theorem alloc_sz (w : World) (o : Obj) : (w.alloc o).heap.size = w.heap.size + 1 := by simp
theorem meas_up {n k : Nat} (h : k < n) : n - (intOf (.int .i64 ((k : Int) + 1))).toNat < n - (intOf (.int .i64 (k : Int))).toNat := by
  simp [intOf]
  omega
theorem cell_five_new (w : World) (x0 x1 x2 x3 x4 : Value) (t : TypeId) : ∀ j u, [x0, x1, x2, x3, x4][j]? = some u → (w.alloc (.cells #[x0, x1, x2, x3, x4] t)).cell? ((⟨w.heap.size, 0, none⟩ : Addr).add j) = some u := by
  intro j u hj
  have hc := cell_of_row (w.alloc (.cells #[x0, x1, x2, x3, x4] t)) w.heap.size j #[x0, x1, x2, x3, x4] t (0, 0) (heap_alloc_new w _)
  have ha : (⟨w.heap.size, 0, none⟩ : Addr).add j = ⟨w.heap.size, j, none⟩ := by unfold Addr.add; split <;> simp_all
  rw [ha, hc]
  rw [← hj]
  simp

set_option maxHeartbeats 4000000 in
set_option maxRecDepth 100000 in
theorem spec_SaveNames_any (x : Sc) (l : ScLay) (A : Option Addr) (n c : Nat) (ns : List ByteArray) (W : World) (hv : ScV W W.heap.size x l) (hs : StI W W.heap.size A n ns) (hn : n ≤ 1048576) :
    Calls Tryd.prog 12 #[x.ag l, .slice A n c] W fun e w' => ∃ A' c', e = .returned (.slice A' (snV x ns).length c') ∧ Hid (RowBd w' W.heap.size w'.heap.size A' (snV x ns) ∧ Below W.heap.size W w') := by
  obtain ⟨i0, hi0, hz0, hz1, hz2⟩ := info_parts infoBd
  obtain ⟨x0, x1, x2⟩ := x
  obtain ⟨A0, n0, c0, h0, A1, n1, c1, h1, A2, n2, c2, h2⟩ := l
  show Calls Tryd.prog 12 #[.agg #[.slice A0 n0 c0, .slice A1 n1 c1, .slice A2 n2 c2], .slice A n c] W _
  have HV := Lib.hid hv
  have HS := Lib.hid hs
  have HN := Lib.hid hn
  have HI := Lib.hid (And.intro hi0 (And.intro hz0 (And.intro hz1 hz2)))
  have HC := Lib.hid (one_newS W 36 #[.slice A0 n0 c0, .slice A1 n1 c1, .slice A2 n2 c2])
  obtain ⟨z1, hz⟩ : ∃ z, tt (ScOk (⟨x0, x1, x2⟩ : Sc)) = z := ⟨_, rfl⟩
  have HZ1 := Lib.hid hz
  obtain ⟨R, hR⟩ : ∃ R, snV ⟨x0, x1, x2⟩ ns = R := ⟨_, rfl⟩
  have HRB : Hid (tt (ScOk (⟨x0, x1, x2⟩ : Sc)) = false → R = []) := fun h => hR ▸ snV_bad h
  have HRN : Hid (∀ (k : Nat) (s : ByteArray), ns[k]? = some s → isNameB s = false → R = []) := fun k s h hz => hR ▸ snV_name h hz
  have HRY : Hid (tt (ScOk (⟨x0, x1, x2⟩ : Sc)) = true → (∀ s ∈ ns, isNameB s = true) → R = ns.map (lkB x0)) := fun h ha => hR ▸ snV_ok h ha
  rw [hR]
  clear hR
  clear hv hs hz hn hi0 hz0 hz1 hz2
  cases z1
  · go_enter Tryd.func12, Tryd.ntmps12
    go_wp2_with (go_at_call 24; obtain ⟨g0, g2, g3⟩ := HC.out _ rfl; have HQ := spec_ValidScope_any ⟨x0, x1, x2⟩ ⟨A0, n0, c0, h0, A1, n1, c1, h1, A2, n2, c2, h2⟩ _ (HV.out.go g2); refine Calls.mono HQ ?_; clear HQ; rintro e w1 ⟨rfl, hb⟩; rw [HZ1.out]; have HB1 := Lib.hid (g2.trans (hb.mono g2.size)); clear g0 g2 g3 hb)
    go_ret
    obtain rfl := HRB.out HZ1.out
    exact ⟨none, 0, rfl, Lib.hid ⟨fun h => by simp at h, HB1.out⟩⟩
  · go_enter Tryd.func12, Tryd.ntmps12
    go_wp2_with (go_at_call 24; obtain ⟨g0, g2, g3⟩ := HC.out _ rfl; have HQ := spec_ValidScope_any ⟨x0, x1, x2⟩ ⟨A0, n0, c0, h0, A1, n1, c1, h1, A2, n2, c2, h2⟩ _ (HV.out.go g2); refine Calls.mono HQ ?_; clear HQ; rintro e w1 ⟨rfl, hb⟩; rw [HZ1.out]; have HB1 := Lib.hid (g2.trans (hb.mono g2.size)); have HR1 := Lib.hid (g0.below hb g3); have HL1 : Hid (W.heap.size < w1.heap.size) := Nat.lt_of_lt_of_le g3 hb.size; clear g0 g2 g3 hb)
    have HO1 : Hid (OwnBd (w1.alloc (.cells #[] 63)) (W.heap.size + 1) (.slice (some ⟨w1.heap.size, 0, none⟩) 0 0) []) := World.ownsRow_lit w1 #[] 0 HL1.out (by decide) rfl
    go_loopw [5, 6] (fun v q wr => ∃ k : Nat, k ≤ n ∧ q = .int .i64 k ∧ Hid (∀ s ∈ ns.take k, isNameB s = true) ∧ Hid (OwnBd wr (W.heap.size + 1) v ((ns.take k).map (lkB x0))) ∧ Hid (RW 36 wr W.heap.size #[.slice A0 n0 c0, .slice A1 n1 c1, .slice A2 n2 c2]) ∧ Hid (Below W.heap.size W wr)) (fun _ q _ => n - (intOf q).toNat)
    case atStart => exact ⟨0, Nat.zero_le _, rfl, Lib.hid (by simp), HO1, Lib.hid (HR1.out.alloc _), Lib.hid (HB1.out.alloc HB1.out.size _)⟩
    case round =>
      clear HO1 HR1 HB1 HL1
      obtain ⟨k, hk, rfl, HA, HO, HR, HB⟩ := hrel
      by_cases hlt : k < n
      · have HKN : Hid (k < n) := hlt
        obtain ⟨b, off, s, rfl, hg, hx, p0, hsz⟩ := ((HS.out.below HB.out)).at_ hlt
        have HX := Lib.hid hx
        have HSZ := Lib.hid hsz
        have HG := Lib.hid hg
        have HLT : Hid (b < wr.heap.size) := Nat.lt_of_lt_of_le hg HB.out.size
        have b0 : (0 : Int) ≤ (k : Int) := by omega
        have b1 : (k : Int) < (n : Int) := by omega
        obtain ⟨z2, hz⟩ : ∃ z, isNameB s = z := ⟨_, rfl⟩
        have HZ2 := Lib.hid hz
        have q0 := HR.out.cell 0
        have q1 := HR.out.cell 1
        have q2 := HR.out.cell 2
        clear hx hsz hg hz
        cases z2
        · go_wp2_with (go_at_call 25; refine (spec_IsName_any s _ HSZ.out).mono ?_; rintro e w2 ⟨rfl, h⟩; obtain rfl := h; rw [HZ2.out])
          go_ret
          obtain rfl := HRN.out _ _ HX.out HZ2.out
          exact ⟨none, 0, rfl, Lib.hid ⟨fun h => by simp at h, HB.out⟩⟩
        · go_wp2_with (go_at_call 25; refine (spec_IsName_any s _ HSZ.out).mono ?_; rintro e w2 ⟨rfl, h⟩; obtain rfl := h; rw [HZ2.out])
          obtain ⟨A9, c9, rfl, hrow⟩ := ownBd_row HO.out
          clear hrow
          have hm2 : ((ns.take k).map (lkB x0)).length ≤ 1048575 := by rw [List.length_map, List.length_take]; have := HN.out; omega
          have HT : Hid (ns.take (k + 1) = ns.take k ++ [s]) := by show _ = _; rw [List.take_add_one, HX.out]; rfl
          generalize hys : (ns.take k).map (lkB x0) = ys at HO hm2
          have HYS := Lib.hid hys
          clear hys
          have HBN := lkB_spec x0 s
          have HLS := Lib.hid HBN.2
          obtain ⟨y, hy⟩ : ∃ y, lkB x0 s = y := ⟨_, rfl⟩
          rw [hy] at HLS
          have HY := Lib.hid hy
          have HYN : Hid (y.name_ = s) := by show _ = _; rw [← hy]; exact HBN.1
          clear HBN hy
          go_region_held3 (fun w' => w'.cell? ⟨b, off + k, none⟩ = some (.string s) ∧ w'.cell? ⟨W.heap.size, 0, none⟩ = some (.slice A0 n0 c0) ∧ w'.cell? ⟨W.heap.size, 1, none⟩ = some (.slice A1 n1 c1) ∧ w'.cell? ⟨W.heap.size, 2, none⟩ = some (.slice A2 n2 c2))
            (first | (exact ⟨p0, q0, q1, q2⟩) | (exact F3.out) | go_keep | (go_split_ands; exact ⟨(hgr1.cell_far ⟨b, off + k, none⟩ (by rw [alloc_sz]; have := HLT.out; have := HB3.out.size; have := HR3.out; have := HG.out; show b < _; omega) N0.out).trans (by assumption), (hgr1.cell_far ⟨W.heap.size, 0, none⟩ (HAZ.out _) N1.out).trans (by assumption), (hgr1.cell_far ⟨W.heap.size, 1, none⟩ (HAZ.out _) N1.out).trans (by assumption), (hgr1.cell_far ⟨W.heap.size, 2, none⟩ (HAZ.out _) N1.out).trans (by assumption)⟩))
            ((first
              | (go_at_call 26; refine (l18Value_any A0 A1 A2 n0 c0 n1 c1 n2 c2 x0 s y.kind_ y.num_ y.text_ y.ref_ _ (HV.out.go HB.out.drew).1 HLS.out).mono ?_; rintro e w3 ⟨rfl, hb⟩; have HB3 : Hid (Below W.heap.size W w3) := HB.out.drew.trans (hb.mono HB.out.size); have HO3 : Hid (OwnBd w3 (W.heap.size + 1) (.slice A9 ys.length c9) ys) := ownBd_keep (w := wr.drew) HO.out hb; have HRW3 := Lib.hid ((show RW 36 wr.drew W.heap.size _ from HR.out).below hb HR.out.lt); have HAZ : Hid (∀ o, W.heap.size < (w3.alloc o).heap.size) := (fun o => Nat.lt_of_lt_of_le (Nat.lt_of_lt_of_le HR.out.lt hb.size) (by rw [alloc_sz]; exact Nat.le_succ _)); have HR3 : Hid (W.heap.size < w3.heap.size) := Nat.lt_of_lt_of_le HR.out.lt hb.size; have F3 : Hid (w3.cell? ⟨b, off + k, none⟩ = some (.string s) ∧ w3.cell? ⟨W.heap.size, 0, none⟩ = some (.slice A0 n0 c0) ∧ w3.cell? ⟨W.heap.size, 1, none⟩ = some (.slice A1 n1 c1) ∧ w3.cell? ⟨W.heap.size, 2, none⟩ = some (.slice A2 n2 c2)) := ⟨(hb.cell (p := ⟨b, off + k, none⟩) HLT.out).trans p0, (hb.cell (p := ⟨W.heap.size, 0, none⟩) HR.out.lt).trans q0, (hb.cell (p := ⟨W.heap.size, 1, none⟩) HR.out.lt).trans q1, (hb.cell (p := ⟨W.heap.size, 2, none⟩) HR.out.lt).trans q2⟩; have N0 : Hid (some b ≠ (Value.slice A9 ys.length c9).ownBlock) := (fun e' => absurd (ownBd_ge HO3.out b e'.symm) (by have := HG.out; omega)); have N1 : Hid (some W.heap.size ≠ (Value.slice A9 ys.length c9).ownBlock) := (fun e' => absurd (ownBd_ge HO3.out W.heap.size e'.symm) (by omega)); clear hb)
              | (refine step_append_lies _ (by rfl) _ _ _ (by rfl) (W.heap.size + 1) 63 i0 (.agg #[.string ⟨#[]⟩, .int .i64 0, .int .i64 0, .string ⟨#[]⟩, .int .i64 0]) 5 56 Tryd.underlying32 HI.out.1 HI.out.2.1 HI.out.2.2.1 HI.out.2.2.2 (by rfl) (by decide) (.slice A9 ys.length c9) ys.length (cellsBd ys) (by rfl) (HO3.out.alloc _) ⟨w3.heap.size, 0, none⟩ 1 1 [.string s, .int .i64 y.kind_, .int .i64 y.num_, .string y.text_, .int .i64 y.ref_] (by rfl) (by rfl) (cell_five_new w3 _ _ _ _ _ _) (fun x hx => by simp at hx; rcases hx with rfl | rfl | rfl | rfl | rfl <;> rfl) (by decide) (by unfold maxLen; omega) (by omega) (HAZ.out _) (w3.heap.size + 1) (alloc_sz _ _) ?_; intro g9 cap9 w7 hown1 hgr1 hat hlt9)))
          have hn5 := HN.out
          have hkn5 := HKN.out
          have wk : wrap64 ((k : Int) + 1) = (k : Int) + 1 := by unfold wrap64; omega
          go_wp2_with fail
          go_roundw
          case rel =>
            refine ⟨k + 1, hkn5, by go_num, ?_, ?_, ?_, ?_⟩
            · refine Lib.hid fun s' hs' => ?_
              rw [HT.out, List.mem_append] at hs'
              rcases hs' with h | h
              · exact HA.out s' h
              · rw [List.mem_singleton.1 h]; exact HZ2.out
            · refine Lib.hid ?_
              rw [HT.out, List.map_append, HYS.out, List.map_singleton, HY.out]
              have e : y.vs = [.string s, .int .i64 y.kind_, .int .i64 y.num_, .string y.text_, .int .i64 y.ref_] := by unfold Bd.vs; rw [HYN.out]
              exact ownBd_snoc y (by rw [e]; exact hown1) rfl
            · exact Lib.hid ((hgr1.block W.heap.size (HAZ.out _) N1.out).trans (show RW 36 _ W.heap.size _ from HRW3.out.alloc _))
            · exact Lib.hid ((HB3.out.alloc HB3.out.size _).grown hgr1 (Nat.le_of_lt (HAZ.out _)) (fun b hb => by have := ownBd_ge HO3.out b hb; omega))
          case measure => rw [wk]; exact meas_up HKN.out
      · have hkn : k = n := by omega
        have hns : ns.take k = ns := List.take_of_length_le (by have := HS.out.1; omega)
        rw [hns] at HA HO
        obtain ⟨A', c', hv, hr⟩ := ownBd_row HO.out
        obtain rfl := HRY.out HZ1.out HA.out
        have HRR := Lib.hid (hr.lower (Nat.le_succ _))
        subst hv
        clear hkn hr hns
        go_wp2_with (fail)
        go_ret
        exact ⟨A', ⟨c', rfl⟩, Lib.hid ⟨HRR.out, HB.out⟩⟩
end Go.Proofs.YtflhjcdabbomiaaDoor

namespace Go.Proofs.YtflhjcdabbomiaaDoor
open Go Go.RowKit

set_option maxHeartbeats 1000000 in
theorem snName_any (s : ByteArray) (W : World) (hs : s.size ≤ maxLen) (hT : Classes W) :
    Calls Tryd.prog 36 #[.string s] W fun e w' => e = .returned (.bool (!isNameB s)) ∧ Below W.heap.size W w' := by
  have HQ := Lib.hid (impl_IsName_any s W hs hT)
  obtain ⟨z, hz⟩ : ∃ z, isNameB s = z := ⟨_, rfl⟩
  rw [hz] at HQ ⊢
  clear hs hT hz
  cases z
  all_goals
    go_enter Tryd.func36, Tryd.ntmps36
    go_wp2_with (go_at_call 31; refine Calls.mono HQ.out ?_; rintro e w1 ⟨rfl, hb⟩; have HB := Lib.hid hb; clear hb)
    go_ret
    exact ⟨rfl, HB.out⟩

set_option maxHeartbeats 1000000 in
set_option maxRecDepth 100000 in
theorem firstWhereS_any (A : Option Addr) (n c : Nat) (ns : List ByteArray) (W : World) (hr : StI W W.heap.size A n ns) (hn : n ≤ 1048576) (hT : Classes W) :
    Calls Tryd.prog 35 #[.slice A n c, .func (.func 36) #[] #[]] W fun e w' => ∃ i : Int, e = .returned (.int .i64 i) ∧ Hid (((0 ≤ i ∧ ∃ (k : Nat) (s : ByteArray), ns[k]? = some s ∧ isNameB s = false) ∨ (i = -1 ∧ ∀ s ∈ ns, isNameB s = true)) ∧ Below W.heap.size W w') := by
  have HR := Lib.hid hr
  have HL := Lib.hid hr.1
  have HT := Lib.hid (fun (w : World) (hb : Below W.heap.size W w) => classes_up hT hb)
  clear hr hT
  go_enter Tryd.func35, Tryd.ntmps35
  go_wp2_with fail
  go_loopw [9] (fun i wr => ∃ k : Nat, k ≤ n ∧ i = .int .i64 k ∧ Hid (Below W.heap.size W wr) ∧ Hid (∀ (j : Nat) (y : ByteArray), j < k → ns[j]? = some y → isNameB y = true)) (fun i _ => n - (intOf i).toNat)
  case atStart => exact ⟨0, Nat.zero_le _, rfl, Below.refl _ _, Lib.hid (fun j y hj => absurd hj (by omega))⟩
  case round =>
    obtain ⟨k, hk, rfl, HW, HA⟩ := hrel
    by_cases hlt : k < n
    · obtain ⟨b, off, s, rfl, hg, hx, p0, hsz⟩ := (HR.out.go HW.out).at_ hlt
      have HX := Lib.hid hx
      have b0 : (0 : Int) ≤ (k : Int) := by omega
      have b1 : (k : Int) < (n : Int) := by omega
      have HQ := Lib.hid (snName_any s wr hsz (HT.out _ HW.out))
      obtain ⟨z, hz⟩ : ∃ z, isNameB s = z := ⟨_, rfl⟩
      rw [hz] at HQ
      have HZ := Lib.hid hz
      clear hx hg hz hsz
      cases z
      · go_wp2_with (go_at_call 36; refine Calls.mono HQ.out ?_; rintro e w2 ⟨rfl, hb⟩; have HW2 := Lib.hid (HW.out.trans (hb.mono HW.out.size)); clear hb)
        go_ret
        exact ⟨_, rfl, Lib.hid ⟨.inl ⟨b0, k, s, HX.out, HZ.out⟩, HW2.out⟩⟩
      · go_wp2_with (go_at_call 36; refine Calls.mono HQ.out ?_; rintro e w2 ⟨rfl, hb⟩; have HW2 := Lib.hid (HW.out.trans (hb.mono HW.out.size)); clear hb)
        go_roundw
        case rel =>
          refine ⟨k + 1, by omega, by go_num, HW2, Lib.hid (fun j y hj hy => ?_)⟩
          by_cases e : j = k
          · subst e
            rw [HX.out, Option.some.injEq] at hy
            subst hy
            exact HZ.out
          · exact HA.out j y (by omega) hy
        case measure => simp [intOf]; omega
    · have hkn : k = n := by omega
      have HAA : Hid (∀ s ∈ ns, isNameB s = true) := fun s hs => by
        obtain ⟨j, hj⟩ := List.getElem?_of_mem hs
        exact HA.out j s (by have := (List.getElem?_eq_some_iff.1 hj).1; have := HL.out; omega) hj
      clear hkn
      go_wp2_with fail
      go_ret
      exact ⟨_, rfl, Lib.hid ⟨.inr ⟨rfl, HAA.out⟩, HW.out⟩⟩
end Go.Proofs.YtflhjcdabbomiaaDoor

namespace Go.Proofs.YtflhjcdabbomiaaDoor
open Go Go.RowKit

theorem less_trans {a b c : List UInt8} (h : Op.bytesLess a b = true) (h' : Op.bytesLess b c = true) : Op.bytesLess a c = true := by
  rw [Go.Proofs.bytesLess_eq, decide_eq_true_eq] at h h' ⊢
  exact List.lt_trans h h'
theorem less_irrefl (a : List UInt8) : Op.bytesLess a a = false := by
  rw [Go.Proofs.bytesLess_eq, decide_eq_false_iff_not]
  exact List.lt_irrefl a
theorem UpOk.rise {α : Type} {ok : α → Bool} {nm : α → ByteArray} {xs : List α} (h : UpOk ok nm xs xs.length) : ∀ {j i : Nat} {a b : α}, i < j → xs[i]? = some a → xs[j]? = some b → Op.bytesLess (nm a).toList (nm b).toList = true
  | 0, _, _, _, hij, _, _ => by omega
  | j + 1, i, a, b, hij, ha, hb => by
    have hl := (List.getElem?_eq_some_iff.1 hb).1
    have hc : xs[j]? = some (xs[j]'(by omega)) := List.getElem?_eq_getElem (by omega)
    have h1 := (h (j + 1) b hl hb).2 _ (by omega) hc
    by_cases e : i = j
    · subst e
      rw [ha, Option.some.injEq] at hc
      rw [hc]
      exact h1
    · exact less_trans (h.rise (show i < j by omega) ha hc) h1
/-- How many names lie ahead of s. -/
def PlaceP {α : Type} (nm : α → ByteArray) (xs : List α) (s : ByteArray) (m : Nat) : Prop :=
  m ≤ xs.length ∧ (∀ (i : Nat) (b : α), i < m → xs[i]? = some b → Op.bytesLess (nm b).toList s.toList = true) ∧ (∀ (i : Nat) (b : α), m ≤ i → xs[i]? = some b → Op.bytesLess (nm b).toList s.toList = false)
theorem PlaceP.ex {α : Type} {ok : α → Bool} {nm : α → ByteArray} {xs : List α} (h : UpOk ok nm xs xs.length) (s : ByteArray) : ∃ m, PlaceP nm xs s m := by
  have key : ∀ k, k ≤ xs.length → (∃ m, PlaceP nm xs s m) ∨ (∀ (i : Nat) (b : α), i < k → xs[i]? = some b → Op.bytesLess (nm b).toList s.toList = true) := by
    intro k
    induction k with
    | zero => exact fun _ => .inr fun i b hi => absurd hi (by omega)
    | succ k ih =>
      intro hk
      rcases ih (by omega) with h' | h'
      · exact .inl h'
      · have hc : xs[k]? = some (xs[k]'(by omega)) := List.getElem?_eq_getElem (by omega)
        cases hb : Op.bytesLess (nm (xs[k]'(by omega))).toList s.toList
        · refine .inl ⟨k, by omega, h', fun i b hi hx => ?_⟩
          by_cases e : i = k
          · subst e
            rw [hc, Option.some.injEq] at hx
            rw [← hx]
            exact hb
          · cases hbb : Op.bytesLess (nm b).toList s.toList
            · rfl
            · have := less_trans (h.rise (show k < i by omega) hc hx) hbb
              rw [hb] at this
              cases this
        · refine .inr fun i b hi hx => ?_
          by_cases e : i = k
          · subst e
            rw [hc, Option.some.injEq] at hx
            rw [← hx]
            exact hb
          · exact h' i b (by omega) hx
  rcases key xs.length (Nat.le_refl _) with h' | h'
  · exact h'
  · exact ⟨xs.length, Nat.le_refl _, fun i b hi hx => h' i b hi hx, fun i b hi hx => absurd (List.getElem?_eq_some_iff.1 hx).1 (by omega)⟩
/-- Found: it is the only one of that name. -/
theorem PlaceP.hit {α : Type} {nm : α → ByteArray} {xs : List α} {s : ByteArray} {m : Nat} {b : α} (h : PlaceP nm xs s m) (_hb : xs[m]? = some b) (_e : nm b = s) : ∀ j, j < m → ∀ c : α, xs[j]? = some c → nm c ≠ s := by
  intro j hj c hc e2
  have := h.2.1 j c hj hc
  rw [e2, less_irrefl] at this
  cases this
theorem PlaceP.miss {α : Type} {ok : α → Bool} {nm : α → ByteArray} {xs : List α} {s : ByteArray} {m : Nat} (hu : UpOk ok nm xs xs.length) (h : PlaceP nm xs s m) (hm : ∀ b, xs[m]? = some b → nm b ≠ s) : ∀ (j : Nat) (c : α), xs[j]? = some c → nm c ≠ s := by
  intro j c hc e2
  rcases Nat.lt_trichotomy j m with q | q | q
  · have := h.2.1 j c q hc
    rw [e2, less_irrefl] at this
    cases this
  · subst q
    exact hm c hc e2
  · have hl := (List.getElem?_eq_some_iff.1 hc).1
    have hb : xs[m]? = some (xs[m]'(by omega)) := List.getElem?_eq_getElem (by omega)
    have h1 := h.2.2 m _ (Nat.le_refl _) hb
    have h2 := hu.rise q hb hc
    rw [e2, h1] at h2
    cases h2
end Go.Proofs.YtflhjcdabbomiaaDoor

namespace Go.Proofs.YtflhjcdabbomiaaDoor
open Go Go.RowKit

set_option maxHeartbeats 4000000 in
set_option maxRecDepth 100000 in
theorem searchBd_any (cap : Array Value) (n m : Nat) (W : World) (hn : n ≤ 1000000) (hm : m ≤ n)
    (hf : ∀ (h : Nat) (w : World), h < n → Below W.heap.size W w → Calls Tryd.prog 76 (#[.int .i64 h] ++ cap) w fun e w' => e = .returned (.bool (decide (m ≤ h))) ∧ Below w.heap.size w w') :
    Calls Tryd.prog 75 #[.int .i64 n, .func (.func 76) #[] cap] W fun e w' => e = .returned (.int .i64 m) ∧ Below W.heap.size W w' := by
  have HF := Lib.hid hf
  clear hf
  go_enter Tryd.func75, Tryd.ntmps75
  go_wp2_with fail
  go_loopw [5, 6] (fun p q wr => ∃ i j : Nat, p = .int .i64 i ∧ q = .int .i64 j ∧ i ≤ m ∧ m ≤ j ∧ j ≤ n ∧ Hid (Below W.heap.size W wr)) (fun p q _ => (intOf q).toNat - (intOf p).toNat)
  case atStart => exact ⟨0, n, rfl, rfl, Nat.zero_le _, hm, Nat.le_refl _, Below.refl _ _⟩
  case round =>
    obtain ⟨i, j, rfl, rfl, hi, hj, hjn, HW⟩ := hrel
    by_cases hlt : i < j
    · have b1 : (i : Int) < (j : Int) := by omega
      obtain ⟨h, hh⟩ : ∃ h, (i + j) / 2 = h := ⟨_, rfl⟩
      have HH : Hid (i ≤ h ∧ h < j) := ⟨by omega, by omega⟩
      have HQ : Hid ((h : Int) = ((i : Int) + (j : Int)) / 2) := by show _ = _; omega
      clear hh
      have HCL := Lib.hid (fun w (hb : Below W.heap.size W w) => (by have hq := HF.out h w (by have := HH.out; omega) hb; rw [HQ.out] at hq; exact hq : Calls Tryd.prog 76 (#[.int .i64 (((i : Int) + (j : Int)) / 2)] ++ cap) w fun e w' => e = .returned (.bool (decide (m ≤ h))) ∧ Below w.heap.size w w'))
      by_cases hmh : m ≤ h
      · have HM := Lib.hid (show decide (m ≤ h) = true by simp [hmh])
        go_wp2_with (go_at_call 76; refine Calls.mono (HCL.out _ HW.out) ?_; rintro e w1 ⟨rfl, hb⟩; rw [HM.out]; have HW1 := Lib.hid (HW.out.trans (hb.mono HW.out.size)); clear hb)
        go_roundw
        case rel => exact ⟨i, h, rfl, by rw [HQ.out], hi, hmh, by have := HH.out; omega, HW1⟩
        case measure => have h1 := HH.out; have h2 := HQ.out; simp [intOf]; omega
      · have HM := Lib.hid (show decide (m ≤ h) = false by simp [hmh])
        go_wp2_with (go_at_call 76; refine Calls.mono (HCL.out _ HW.out) ?_; rintro e w1 ⟨rfl, hb⟩; rw [HM.out]; have HW1 := Lib.hid (HW.out.trans (hb.mono HW.out.size)); clear hb)
        go_roundw
        case rel => exact ⟨h + 1, j, by rw [← HQ.out]; go_num, rfl, by omega, hj, hjn, HW1⟩
        case measure => have h1 := HH.out; have h2 := HQ.out; simp [intOf]; omega
    · have hij : i = m := by omega
      subst hij
      go_wp2_with fail
      go_ret
      exact ⟨rfl, HW.out⟩
end Go.Proofs.YtflhjcdabbomiaaDoor

namespace Go.Proofs.YtflhjcdabbomiaaDoor
open Go Go.RowKit Go.Sort

set_option maxHeartbeats 4000000 in
set_option maxRecDepth 100000 in
theorem placeC_any (g2 g3 : Nat) (A : Option Addr) (n c h : Nat) (xs : List Bd) (s : ByteArray) (x : Bd) (W : World) (h2 : W.cell? ⟨g2, 0, none⟩ = some (.slice A n c)) (h3 : W.cell? ⟨g3, 0, none⟩ = some (.string s)) (hI : BdI W W.heap.size A n xs) (hh : h < n) (hx : xs[h]? = some x) :
    Calls Tryd.prog 76 (#[.int .i64 h] ++ #[.pointer (some ⟨g2, 0, none⟩), .pointer (some ⟨g3, 0, none⟩)]) W fun e w' => e = .returned (.bool (!(Op.bytesLess x.name_.toList s.toList))) ∧ Below W.heap.size W w' := by
  have hn := hI.2.1
  unfold maxLen at hn
  obtain ⟨b, off, y, rfl, hg, hy, ⟨q0, q1, q2, q3, q4⟩, _⟩ := hI.at_ hh
  obtain rfl : x = y := Option.some.inj (hx.symm.trans hy)
  have b0 : (0 : Int) ≤ (h : Int) := by omega
  have b1 : (h : Int) < (n : Int) := by omega
  have hmx := method_keyBd (.string x.name_) (.int .i64 x.kind_) (.int .i64 x.num_) (.string x.text_) (.int .i64 x.ref_)
  obtain ⟨z, hz⟩ : ∃ z, Op.bytesLess x.name_.toList s.toList = z := ⟨_, rfl⟩
  rw [hz]
  have HKX := Lib.hid (fun w => keyBd_any x w)
  clear hx hy hI hg
  show Calls Tryd.prog 76 #[.int .i64 h, .pointer (some ⟨g2, 0, none⟩), .pointer (some ⟨g3, 0, none⟩)] W _
  go_enter Tryd.func76, Tryd.ntmps76
  go_wp2_with fail
  obtain ⟨w0, hw0⟩ : ∃ w0, W = w0 := ⟨_, rfl⟩
  have x0 := cell_regrown q0
  have x1 := cell_regrown q1
  have x2 := cell_regrown q2
  have x3 := cell_regrown q3
  have x4 := cell_regrown q4
  have y2 := cell_regrown h2
  have y3 := cell_regrown h3
  have cX : ∀ d os', Calls Tryd.prog 95 #[.agg #[.string x.name_, .int .i64 x.kind_, .int .i64 x.num_, .string x.text_, .int .i64 x.ref_]] (grow (redrawn W d) os') (fun e w'' => e = .returned (.string x.name_) ∧ ∃ q : Regrown, w'' = grow (redrawn W q.d) q.os) := fun d os' => Calls.regrown_of (HKX.out _)
  clear hw0 q0 q1 q2 q3 q4 h2 h3
  refine wp_region_quiet_below (by kernel_rfl) (by kernel_rfl) ?_
  repeat (first | go_big_quiet_step (with_reducible exact cX _ _) | quiet_step (with_reducible exact cX _ _))
  refine wpQuiet_nil ?_
  intro w4 hw'
  obtain ⟨⟨dq, osq⟩, hw''⟩ := hw'
  have HB4 : Hid (Below W.heap.size W w4) := by show Below _ _ _; rw [hw'']; exact below_regrown W dq osq
  clear hw'' x0 x1 x2 x3 x4 y2 y3 cX
  go_wp2_with fail
  go_ret
  exact ⟨rfl, HB4.out⟩

theorem place_bool {xs : List Bd} {s : ByteArray} {m h : Nat} {x : Bd} (hp : PlaceP Bd.name_ xs s m) (hx : xs[h]? = some x) : (!(Op.bytesLess x.name_.toList s.toList)) = decide (m ≤ h) := by
  by_cases hmh : m ≤ h
  · rw [hp.2.2 h x hmh hx]; simp [hmh]
  · rw [hp.2.1 h x (by omega) hx]; simp [hmh]

set_option maxHeartbeats 4000000 in
set_option maxRecDepth 100000 in
theorem placeBd_any (A : Option Addr) (n c m : Nat) (xs : List Bd) (s : ByteArray) (f : Bool) (W : World) (hI : BdI W W.heap.size A n xs) (hn : n ≤ 1000) (hp : PlaceP Bd.name_ xs s m) (hf : (∃ x : Bd, xs[m]? = some x ∧ (x.name_.toList == s.toList) = f) ∨ (m = n ∧ f = false)) :
    Calls Tryd.prog 72 #[.slice A n c, .string s] W fun e w' => e = .returned (.tuple #[.int .i64 m, .bool f]) ∧ Below W.heap.size W w' := by
  have HI := Lib.hid hI
  have HP := Lib.hid hp
  have hl := hI.1
  have hmn : m ≤ n := by have := hp.1; omega
  have HC := Lib.hid (fun (X : World) (T T' : TypeId) (e : X = (W.alloc (.cells #[.slice A n c] T)).alloc (.cells #[.string s] T')) => two_cells W T T' #[.slice A n c] #[.string s] X e)
  have HCL : Hid (∀ (w1 : World), Below W.heap.size W w1 → w1.cell? ⟨W.heap.size, 0, none⟩ = some (.slice A n c) → w1.cell? ⟨W.heap.size + 1, 0, none⟩ = some (.string s) → W.heap.size + 2 ≤ w1.heap.size → ∀ (h : Nat) (w : World), h < n → Below w1.heap.size w1 w → Calls Tryd.prog 76 (#[.int .i64 h] ++ #[.pointer (some ⟨W.heap.size, 0, none⟩), .pointer (some ⟨W.heap.size + 1, 0, none⟩)]) w fun e w' => e = .returned (.bool (decide (m ≤ h))) ∧ Below w.heap.size w w') := by
    show ∀ _, _
    intro w1 hb1 k2 k3 hz h w hlt hb
    have hx : xs[h]? = some (xs[h]'(by omega)) := List.getElem?_eq_getElem (by omega)
    rw [← place_bool HP.out hx]
    exact placeC_any W.heap.size (W.heap.size + 1) A n c h xs s _ w ((hb.cell (p := ⟨W.heap.size, 0, none⟩) (by dsimp only; omega)).trans k2) ((hb.cell (p := ⟨W.heap.size + 1, 0, none⟩) (by dsimp only; omega)).trans k3) ((HI.out.go hb1).go hb) hlt hx
  clear hI hp
  go_enter Tryd.func72, Tryd.ntmps72
  go_wp2_with (go_at_call 75; obtain ⟨g0, g1, g2⟩ := HC.out _ _ _ rfl; refine (searchBd_any #[.pointer (some ⟨W.heap.size, 0, none⟩), .pointer (some ⟨W.heap.size + 1, 0, none⟩)] n m _ (by omega) hmn (HCL.out _ g2 (g0.cell 0) (g1.cell 0) (by simp))).mono ?_; rintro e w1 ⟨rfl, hb⟩; have HA1 := Lib.hid (g0.below hb g0.lt); have HD1 := Lib.hid (g1.below hb g1.lt); have HB1 := Lib.hid (g2.trans (hb.mono g2.size)); clear g0 g1 g2 hb)
  have r2 : w1.cell? ⟨W.heap.size, 0, none⟩ = some (.slice A n c) := HA1.out.cell 0
  have r3 : w1.cell? ⟨W.heap.size + 1, 0, none⟩ = some (.string s) := HD1.out.cell 0
  have y2 := cell_regrown r2
  have y3 := cell_regrown r3
  have c0 : (0 : Int) ≤ (m : Int) := by omega
  rcases hf with ⟨x, hx, hz⟩ | ⟨hmn2, rfl⟩
  · have hlt : m < n := by have := (List.getElem?_eq_some_iff.1 hx).1; omega
    have c1 : (m : Int) < (n : Int) := by omega
    have c2 : decide ((m : Int) < (n : Int)) = true := by simp; omega
    obtain ⟨b, off, y, rfl, hg, hy, ⟨q0, q1, q2, q3, q4⟩, _⟩ := (HI.out.go HB1.out).at_ hlt
    obtain rfl : x = y := Option.some.inj (hx.symm.trans hy)
    have hmx := method_keyBd (.string x.name_) (.int .i64 x.kind_) (.int .i64 x.num_) (.string x.text_) (.int .i64 x.ref_)
    have HKX := Lib.hid (fun w => keyBd_any x w)
    have x0 := cell_regrown q0
    have x1 := cell_regrown q1
    have x2 := cell_regrown q2
    have x3 := cell_regrown q3
    have x4 := cell_regrown q4
    have cX : ∀ d os', Calls Tryd.prog 95 #[.agg #[.string x.name_, .int .i64 x.kind_, .int .i64 x.num_, .string x.text_, .int .i64 x.ref_]] (grow (redrawn w1 d) os') (fun e w'' => e = .returned (.string x.name_) ∧ ∃ q : Regrown, w'' = grow (redrawn w1 q.d) q.os) := fun d os' => Calls.regrown_of (HKX.out _)
    clear r2 r3 q0 q1 q2 q3 q4 hx hy hg
    refine wp_region_quiet_below (by kernel_rfl) (by kernel_rfl) ?_
    repeat (first | go_big_quiet_step (with_reducible exact cX _ _) | quiet_step (with_reducible exact cX _ _))
    refine wpQuiet_nil ?_
    intro w4 hw'
    obtain ⟨⟨dq, osq⟩, hw''⟩ := hw'
    have HB4 : Hid (Below W.heap.size W w4) := by show Below _ _ _; rw [hw'']; exact HB1.out.trans ((below_regrown w1 dq osq).mono HB1.out.size)
    clear hw'' x0 x1 x2 x3 x4 y2 y3 cX
    go_wp2_with fail
    exact bodyPost_ret (v := .tuple #[.int .i64 m, .bool f]) (by rw [results_tmp2 rfl]; first | (go_simp; done) | (go_simp; rw [hz])) rfl ⟨rfl, HB4.out⟩
  · have c1 : ¬ (m : Int) < (n : Int) := by omega
    have c2 : decide ((m : Int) < (n : Int)) = false := by simp; omega
    clear r2 r3
    refine wp_region_quiet_below (by kernel_rfl) (by kernel_rfl) ?_
    repeat (first | go_big_quiet_step (fail) | quiet_step (fail))
    refine wpQuiet_nil ?_
    intro w4 hw'
    obtain ⟨⟨dq, osq⟩, hw''⟩ := hw'
    have HB4 : Hid (Below W.heap.size W w4) := by show Below _ _ _; rw [hw'']; exact HB1.out.trans ((below_regrown w1 dq osq).mono HB1.out.size)
    clear hw'' y2 y3
    go_wp2_with fail
    exact bodyPost_ret (v := .tuple #[.int .i64 m, .bool false]) (by rw [results_tmp2 rfl]; go_simp) rfl ⟨by rw [hmn2], HB4.out⟩
end Go.Proofs.YtflhjcdabbomiaaDoor

namespace Go.Proofs.YtflhjcdabbomiaaDoor
open Go Go.RowKit Go.Sort

theorem below_setRow (w : World) {B g : Nat} (h : B ≤ g) (cs : Array Value) : Below B w (w.setRow g cs) := ⟨rfl, rfl, rfl, by simp [World.setRow], fun k hk => setRow_other w g k _ (by omega)⟩
theorem RW.setRow {T : TypeId} {w : World} {g : Nat} {old : Array Value} (h : RW T w g old) (cs : Array Value) : RW T (w.setRow g cs) g cs := setRow_heap w g old cs _ (0, 0) h
theorem results_row_tmp {P : Program} {fn : Func} {p u : Tmp} {ty : TypeId} (h : fn.results = #[.cell p ty, .tmp u]) (tmps : Array Value) (w : World) (g : Nat) (t : TypeId) (cs : Array Value) (fr : Nat × Nat) (d : TypeDesc) (v : Value)
    (hp : tmps.getD p undef = .pointer (some ⟨g, 0, none⟩)) (hv : tmps.getD u undef = v) (hg : w.heap[g]? = some (.cells cs t fr))
    (hu : P.underlying ty = some d) (hd : (match d with | .struct _ | .array _ _ => true | _ => false) = true) (hi : (P.info? ty).map (·.size) = some cs.size) :
    (results fn tmps).run P w = .ok (.tuple #[.agg cs, v]) w := by
  rw [results_cell_tmp h, hp, hv]
  simp [asAddr, run_loadVar_row w g t ty cs fr d hg hu hd hi]

theorem method_cloneBd (v0 v1 v2 v3 v4 : Value) (w : World) : (method 247 63 (.agg #[v0, v1, v2, v3, v4]) "loop.example/g00873/impl.clone").run Tryd.prog w = .ok (93, .agg #[v0, v1, v2, v3, v4]) w := by kernel_rfl
set_option maxHeartbeats 1000000 in
theorem cloneBd_any (x : Bd) (W : World) : Calls Tryd.prog 93 #[x.ag] W fun e w' => e = .returned x.ag ∧ Below W.heap.size W w' := by
  obtain ⟨x0, x1, x2, x3, x4⟩ := x
  show Calls Tryd.prog 93 #[.agg #[.string x0, .int .i64 x1, .int .i64 x2, .string x3, .int .i64 x4]] W _
  go_enter Tryd.func93, Tryd.ntmps93
  go_wp2_with fail
  have h := two_cells W 63 63 #[.string x0, .int .i64 x1, .int .i64 x2, .string x3, .int .i64 x4] #[.string x0, .int .i64 x1, .int .i64 x2, .string x3, .int .i64 x4] _ rfl
  refine bodyPost_ret (v := .agg #[.string x0, .int .i64 x1, .int .i64 x2, .string x3, .int .i64 x4]) ?_ rfl ?_
  · exact results_cell_row Tryd.results93 _ _ (W.heap.size + 1) 63 #[.string x0, .int .i64 x1, .int .i64 x2, .string x3, .int .i64 x4] (0, 0) _ rfl h.2.1 Tryd.underlying63 rfl (by kernel_rfl)
  · exact ⟨rfl, h.2.2⟩

theorem nullValue_any (W : World) : Calls Tryd.prog 62 #[] W fun e w' => e = .returned (.agg #[.int .i64 1, .int .i64 0, .string ⟨#[]⟩, .int .i64 0]) ∧ Below W.heap.size W w' := by
  have HC := Lib.hid (one_newS W 29 #[.int .i64 0, .int .i64 0, .string ⟨#[]⟩, .int .i64 0])
  go_enter Tryd.func62, Tryd.ntmps62
  go_wp2_with (go_at_call 73; obtain ⟨g0, g1, g2⟩ := HC.out _ rfl; refine (textValue_any 1 ⟨#[]⟩ _).mono ?_; rintro e w1 ⟨rfl, hb⟩; have HR1 := Lib.hid (g0.below hb g0.lt); have HB1 := Lib.hid (g1.trans (hb.mono g1.size)); have z0 := HR1.out.cell 0; have z1 := HR1.out.cell 1; have z2 := HR1.out.cell 2; have z3 := HR1.out.cell 3; have f0 := HR1.out.frozen 0; have f1 := HR1.out.frozen 1; have f2 := HR1.out.frozen 2; have f3 := HR1.out.frozen 3; clear g0 g1 g2 hb)
  refine bodyPost_ret (v := .agg #[.int .i64 1, .int .i64 0, .string ⟨#[]⟩, .int .i64 0]) (results_cell_row Tryd.results62 _ _ W.heap.size 29 _ (0, 0) _ rfl ((((HR1.out.set_ 0 _).set_ 1 _).set_ 2 _).set_ 3 _) Tryd.underlying29 rfl (by kernel_rfl)) rfl ⟨rfl, ?_⟩
  exact ((((HB1.out.setCell (p := ⟨W.heap.size, 0, none⟩) (by simp) _).setCell (p := ⟨W.heap.size, 1, none⟩) (by simp) _).setCell (p := ⟨W.heap.size, 2, none⟩) (by simp) _).setCell (p := ⟨W.heap.size, 3, none⟩) (by simp) _)

set_option maxHeartbeats 4000000 in
set_option maxRecDepth 100000 in
theorem findBd_no (A : Option Addr) (n c m : Nat) (xs : List Bd) (s : ByteArray) (W : World) (hI : BdI W W.heap.size A n xs) (hn : n ≤ 1000) (hp : PlaceP Bd.name_ xs s m) (hf : (∃ x : Bd, xs[m]? = some x ∧ (x.name_.toList == s.toList) = false) ∨ m = n) :
    Calls Tryd.prog 61 #[.slice A n c, .string s] W fun e w' => e = .returned (.tuple #[.agg #[.string ⟨#[]⟩, .int .i64 0, .int .i64 0, .string ⟨#[]⟩, .int .i64 0], .bool false]) ∧ Below W.heap.size W w' := by
  have HC := Lib.hid (one_newS W 63 #[.string ⟨#[]⟩, .int .i64 0, .int .i64 0, .string ⟨#[]⟩, .int .i64 0])
  have HQ := Lib.hid (fun (w : World) (hb : Below W.heap.size W w) => placeBd_any A n c m xs s false w (hI.go hb) hn hp (hf.imp id fun h => ⟨h, rfl⟩))
  clear hI hp hf
  go_enter Tryd.func61, Tryd.ntmps61
  go_wp2_with (go_at_call 72; obtain ⟨g0, g1, g2⟩ := HC.out _ rfl; refine (HQ.out _ g1).mono ?_; rintro e w1 ⟨rfl, hb⟩; have HR1 := Lib.hid (g0.below hb g0.lt); have HB1 := Lib.hid (g1.trans (hb.mono g1.size)); have z0 : ∀ o, (w1.alloc o).cell? ⟨W.heap.size, 0, none⟩ = some (.string ⟨#[]⟩) := (fun o => (HR1.out.alloc o).cell 0); have f0 : ∀ o, (w1.alloc o).frozen? ⟨W.heap.size, 0, none⟩ = false := (fun o => (HR1.out.alloc o).frozen 0); have z1 : ∀ o, (w1.alloc o).cell? ⟨W.heap.size, 1, none⟩ = some (.int .i64 0) := (fun o => (HR1.out.alloc o).cell 1); have f1 : ∀ o, (w1.alloc o).frozen? ⟨W.heap.size, 1, none⟩ = false := (fun o => (HR1.out.alloc o).frozen 1); have z2 : ∀ o, (w1.alloc o).cell? ⟨W.heap.size, 2, none⟩ = some (.int .i64 0) := (fun o => (HR1.out.alloc o).cell 2); have f2 : ∀ o, (w1.alloc o).frozen? ⟨W.heap.size, 2, none⟩ = false := (fun o => (HR1.out.alloc o).frozen 2); have z3 : ∀ o, (w1.alloc o).cell? ⟨W.heap.size, 3, none⟩ = some (.string ⟨#[]⟩) := (fun o => (HR1.out.alloc o).cell 3); have f3 : ∀ o, (w1.alloc o).frozen? ⟨W.heap.size, 3, none⟩ = false := (fun o => (HR1.out.alloc o).frozen 3); have z4 : ∀ o, (w1.alloc o).cell? ⟨W.heap.size, 4, none⟩ = some (.int .i64 0) := (fun o => (HR1.out.alloc o).cell 4); have f4 : ∀ o, (w1.alloc o).frozen? ⟨W.heap.size, 4, none⟩ = false := (fun o => (HR1.out.alloc o).frozen 4); clear g0 g1 g2 hb)
  refine bodyPost_ret (v := .tuple #[.agg #[.string ⟨#[]⟩, .int .i64 0, .int .i64 0, .string ⟨#[]⟩, .int .i64 0], .bool false]) ?_ rfl ?_
  · exact results_row_tmp Tryd.results61 _ _ W.heap.size 63 #[.string ⟨#[]⟩, .int .i64 0, .int .i64 0, .string ⟨#[]⟩, .int .i64 0] (0, 0) _ _ rfl rfl (((((((HR1.out.alloc _).set_ 0 _).set_ 1 _).set_ 2 _).set_ 3 _).set_ 4 _)) Tryd.underlying63 rfl (by kernel_rfl)
  · exact ⟨rfl, (((((HB1.out.trans ((below_alloc w1 _).mono HB1.out.size)).setCell (p := ⟨W.heap.size, 0, none⟩) (Nat.le_refl _) _).setCell (p := ⟨W.heap.size, 1, none⟩) (Nat.le_refl _) _).setCell (p := ⟨W.heap.size, 2, none⟩) (Nat.le_refl _) _).setCell (p := ⟨W.heap.size, 3, none⟩) (Nat.le_refl _) _).setCell (p := ⟨W.heap.size, 4, none⟩) (Nat.le_refl _) _⟩

set_option maxHeartbeats 4000000 in
set_option maxRecDepth 100000 in
theorem findBd_yes (A : Option Addr) (n c m : Nat) (xs : List Bd) (s : ByteArray) (x : Bd) (W : World) (hI : BdI W W.heap.size A n xs) (hn : n ≤ 1000) (hp : PlaceP Bd.name_ xs s m) (hx : xs[m]? = some x) (hf : (x.name_.toList == s.toList) = true) :
    Calls Tryd.prog 61 #[.slice A n c, .string s] W fun e w' => e = .returned (.tuple #[x.ag, .bool true]) ∧ Below W.heap.size W w' := by
  have HC := Lib.hid (one_newS W 63 #[.string ⟨#[]⟩, .int .i64 0, .int .i64 0, .string ⟨#[]⟩, .int .i64 0])
  have HQ := Lib.hid (fun (w : World) (hb : Below W.heap.size W w) => placeBd_any A n c m xs s true w (hI.go hb) hn hp (.inl ⟨x, hx, hf⟩))
  have hlt : m < n := by have := (List.getElem?_eq_some_iff.1 hx).1; have := hI.1; omega
  have c0 : (0 : Int) ≤ (m : Int) := by omega
  have c1 : (m : Int) < (n : Int) := by omega
  obtain ⟨b, off, y, rfl, hg, hy, hq, _⟩ := hI.at_ hlt
  obtain rfl : x = y := Option.some.inj (hx.symm.trans hy)
  have HE := Lib.hid (fun (w : World) (hb : Below W.heap.size W w) => hq.below hb hg)
  obtain ⟨x0, x1, x2, x3, x4⟩ := x
  have hm := method_cloneBd (.string x0) (.int .i64 x1) (.int .i64 x2) (.string x3) (.int .i64 x4)
  have HCL := Lib.hid (fun w => cloneBd_any ⟨x0, x1, x2, x3, x4⟩ w)
  clear hI hp hf hx hy hq hg
  show Calls Tryd.prog 61 #[.slice (some ⟨b, off, none⟩) n c, .string s] W fun e w' => e = .returned (.tuple #[.agg #[.string x0, .int .i64 x1, .int .i64 x2, .string x3, .int .i64 x4], .bool true]) ∧ Below W.heap.size W w'
  go_enter Tryd.func61, Tryd.ntmps61
  go_wp2_with (first
    | (go_at_call 72; obtain ⟨g0, g1, g2⟩ := HC.out _ rfl; refine (HQ.out _ g1).mono ?_; rintro e w1 ⟨rfl, hb⟩; have HR1 := Lib.hid (g0.below hb g0.lt); have HB1 := Lib.hid (g1.trans (hb.mono g1.size)); obtain ⟨q0, q1, q2, q3, q4⟩ := HE.out _ HB1.out; clear g0 g1 g2 hb)
    | (go_at_call 93; refine (HCL.out _).mono ?_; rintro e w2 ⟨he, hb⟩; obtain rfl : e = .returned (.agg #[.string x0, .int .i64 x1, .int .i64 x2, .string x3, .int .i64 x4]) := he; have HR2 := Lib.hid (HR1.out.below hb HR1.out.lt); have HB2 := Lib.hid (HB1.out.trans (hb.mono HB1.out.size)); have z0 : w2.cell? ⟨W.heap.size, 0, none⟩ = some (.string ⟨#[]⟩) := HR2.out.cell 0; have f0 := HR2.out.frozen 0; have z1 : w2.cell? ⟨W.heap.size, 1, none⟩ = some (.int .i64 0) := HR2.out.cell 1; have f1 := HR2.out.frozen 1; have z2 : w2.cell? ⟨W.heap.size, 2, none⟩ = some (.int .i64 0) := HR2.out.cell 2; have f2 := HR2.out.frozen 2; have z3 : w2.cell? ⟨W.heap.size, 3, none⟩ = some (.string ⟨#[]⟩) := HR2.out.cell 3; have f3 := HR2.out.frozen 3; have z4 : w2.cell? ⟨W.heap.size, 4, none⟩ = some (.int .i64 0) := HR2.out.cell 4; have f4 := HR2.out.frozen 4; clear hb q0 q1 q2 q3 q4))
  refine bodyPost_ret (v := .tuple #[.agg #[.string x0, .int .i64 x1, .int .i64 x2, .string x3, .int .i64 x4], .bool true]) ?_ rfl ?_
  · exact results_row_tmp Tryd.results61 _ _ W.heap.size 63 #[.string x0, .int .i64 x1, .int .i64 x2, .string x3, .int .i64 x4] (0, 0) _ _ rfl rfl (((((HR2.out.set_ 0 _).set_ 1 _).set_ 2 _).set_ 3 _).set_ 4 _) Tryd.underlying63 rfl (by kernel_rfl)
  · exact ⟨rfl, ((((HB2.out.setCell (p := ⟨W.heap.size, 0, none⟩) (Nat.le_refl _) _).setCell (p := ⟨W.heap.size, 1, none⟩) (Nat.le_refl _) _).setCell (p := ⟨W.heap.size, 2, none⟩) (Nat.le_refl _) _).setCell (p := ⟨W.heap.size, 3, none⟩) (Nat.le_refl _) _).setCell (p := ⟨W.heap.size, 4, none⟩) (Nat.le_refl _) _⟩


set_option maxHeartbeats 4000000 in
set_option maxRecDepth 100000 in
theorem valueOf_any (A0 A1 A2 : Option Addr) (n0 c0 n1 c1 n2 c2 : Nat) (xs : List Bd) (s : ByteArray) (k n : Int) (t : ByteArray) (r : Int) (W : World) (hI : BdI W W.heap.size A0 n0 xs) (hup : ListOk bdOk Bd.name_ 40 xs) (hl : LookP xs s k n t r) :
    Calls Tryd.prog 32 #[.agg #[.slice A0 n0 c0, .slice A1 n1 c1, .slice A2 n2 c2], .string s] W fun e w' => e = .returned (.agg #[.int .i64 k, .int .i64 n, .string t, .int .i64 r]) ∧ Below W.heap.size W w' := by
  obtain ⟨m, hp⟩ := PlaceP.ex hup.2 s
  have hn : n0 ≤ 1000 := by have := hup.1; have := hI.1; omega
  have HC := Lib.hid (two_cells W 36 29 #[.slice A0 n0 c0, .slice A1 n1 c1, .slice A2 n2 c2] #[.int .i64 0, .int .i64 0, .string ⟨#[]⟩, .int .i64 0])
  have HI := Lib.hid hI
  have HP := Lib.hid hp
  have HL := Lib.hid hl
  have HU := Lib.hid hup
  by_cases hf : ∃ x : Bd, xs[m]? = some x ∧ x.name_ = s
  · obtain ⟨x, hx, hxs⟩ := hf
    have HE : Hid (k = x.kind_ ∧ n = x.num_ ∧ t = x.text_ ∧ r = x.ref_) := LookP.uniq HL.out (.inl ⟨m, x, hx, hxs, HP.out.hit hx hxs, rfl, rfl, rfl, rfl⟩)
    obtain ⟨rfl, rfl, rfl, rfl⟩ := HE.out
    have HQ := Lib.hid (fun (w : World) (hb : Below W.heap.size W w) => findBd_yes A0 n0 c0 m xs s x w (hI.go hb) hn hp hx (beq_bytes.2 hxs))
    clear hI hup hp hl hx hxs HE
    go_enter Tryd.func32, Tryd.ntmps32
    go_wp2_with (first
      | (go_at_call 53; obtain ⟨g0, g1, g2⟩ := HC.out _ rfl; refine (vars_any A0 A1 A2 n0 c0 n1 c1 n2 c2 _).mono ?_; rintro e w1 ⟨rfl, hb⟩; have HR1 := Lib.hid (g1.below hb g1.lt); have HB1 := Lib.hid (g2.trans (hb.mono g2.size)); clear g0 g1 g2 hb)
      | (go_at_call 61; refine (HQ.out _ HB1.out).mono ?_; rintro e w2 ⟨rfl, hb⟩; have HR2 := Lib.hid (HR1.out.below hb HR1.out.lt); have HB2 := Lib.hid (HB1.out.trans (hb.mono HB1.out.size)); have z0 : ∀ o, (w2.alloc o).cell? ⟨W.heap.size + 1, 0, none⟩ = some (.int .i64 0) := (fun o => (HR2.out.alloc o).cell 0); have f0 : ∀ o, (w2.alloc o).frozen? ⟨W.heap.size + 1, 0, none⟩ = false := (fun o => (HR2.out.alloc o).frozen 0); have z1 : ∀ o, (w2.alloc o).cell? ⟨W.heap.size + 1, 1, none⟩ = some (.int .i64 0) := (fun o => (HR2.out.alloc o).cell 1); have f1 : ∀ o, (w2.alloc o).frozen? ⟨W.heap.size + 1, 1, none⟩ = false := (fun o => (HR2.out.alloc o).frozen 1); have z2 : ∀ o, (w2.alloc o).cell? ⟨W.heap.size + 1, 2, none⟩ = some (.string ⟨#[]⟩) := (fun o => (HR2.out.alloc o).cell 2); have f2 : ∀ o, (w2.alloc o).frozen? ⟨W.heap.size + 1, 2, none⟩ = false := (fun o => (HR2.out.alloc o).frozen 2); have z3 : ∀ o, (w2.alloc o).cell? ⟨W.heap.size + 1, 3, none⟩ = some (.int .i64 0) := (fun o => (HR2.out.alloc o).cell 3); have f3 : ∀ o, (w2.alloc o).frozen? ⟨W.heap.size + 1, 3, none⟩ = false := (fun o => (HR2.out.alloc o).frozen 3); clear hb))
    refine bodyPost_ret (v := .agg #[.int .i64 x.kind_, .int .i64 x.num_, .string x.text_, .int .i64 x.ref_]) ?_ rfl ?_
    · exact results_cell_row Tryd.results32 _ _ (W.heap.size + 1) 29 _ (0, 0) _ rfl (((((HR2.out.alloc _).set_ 0 _).set_ 1 _).set_ 2 _).set_ 3 _) Tryd.underlying29 rfl (by kernel_rfl)
    · exact ⟨rfl, ((((HB2.out.trans ((below_alloc w2 _).mono HB2.out.size)).setCell (p := ⟨W.heap.size + 1, 0, none⟩) (by simp) _).setCell (p := ⟨W.heap.size + 1, 1, none⟩) (by simp) _).setCell (p := ⟨W.heap.size + 1, 2, none⟩) (by simp) _).setCell (p := ⟨W.heap.size + 1, 3, none⟩) (by simp) _⟩
  · have HE : Hid (k = 1 ∧ n = 0 ∧ t = ⟨#[]⟩ ∧ r = 0) := LookP.uniq HL.out (.inr ⟨HP.out.miss HU.out.2 (fun b hb e => hf ⟨b, hb, e⟩), rfl, rfl, rfl, rfl⟩)
    obtain ⟨rfl, rfl, rfl, rfl⟩ := HE.out
    have HQ := Lib.hid (fun (w : World) (hb : Below W.heap.size W w) => findBd_no A0 n0 c0 m xs s w (hI.go hb) hn hp (by
      by_cases hlt : m < xs.length
      · refine .inl ⟨xs[m], List.getElem?_eq_getElem hlt, ?_⟩
        cases hz : (xs[m].name_.toList == s.toList)
        · rfl
        · exact absurd ⟨_, List.getElem?_eq_getElem hlt, beq_bytes.1 hz⟩ hf
      · exact .inr (by have := hp.1; have := hI.1; omega)))
    clear hI hup hp hl hf HE
    go_enter Tryd.func32, Tryd.ntmps32
    go_wp2_with (first
      | (go_at_call 53; obtain ⟨g0, g1, g2⟩ := HC.out _ rfl; refine (vars_any A0 A1 A2 n0 c0 n1 c1 n2 c2 _).mono ?_; rintro e w1 ⟨rfl, hb⟩; have HR1 := Lib.hid (g1.below hb g1.lt); have HB1 := Lib.hid (g2.trans (hb.mono g2.size)); clear g0 g1 g2 hb)
      | (go_at_call 61; refine (HQ.out _ HB1.out).mono ?_; rintro e w2 ⟨rfl, hb⟩; have HR2 := Lib.hid ((HR1.out.below hb HR1.out.lt)); have HB2 := Lib.hid (HB1.out.trans (hb.mono HB1.out.size)); clear hb)
      | (go_at_call 62; refine (nullValue_any _).mono ?_; rintro e w3 ⟨rfl, hb⟩; have HR3 := Lib.hid ((HR2.out.alloc _).below hb (HR2.out.alloc _).lt); have HB3 := Lib.hid ((HB2.out.trans ((below_alloc w2 _).mono HB2.out.size)).trans (hb.mono (Nat.le_trans HB2.out.size (by simp)))); have z0 : w3.cell? ⟨W.heap.size + 1, 0, none⟩ = some (.int .i64 0) := HR3.out.cell 0; have f0 := HR3.out.frozen 0; have z1 : w3.cell? ⟨W.heap.size + 1, 1, none⟩ = some (.int .i64 0) := HR3.out.cell 1; have f1 := HR3.out.frozen 1; have z2 : w3.cell? ⟨W.heap.size + 1, 2, none⟩ = some (.string ⟨#[]⟩) := HR3.out.cell 2; have f2 := HR3.out.frozen 2; have z3 : w3.cell? ⟨W.heap.size + 1, 3, none⟩ = some (.int .i64 0) := HR3.out.cell 3; have f3 := HR3.out.frozen 3; clear hb))
    refine bodyPost_ret (v := .agg #[.int .i64 1, .int .i64 0, .string ⟨#[]⟩, .int .i64 0]) ?_ rfl ?_
    · exact results_cell_row Tryd.results32 _ _ (W.heap.size + 1) 29 _ (0, 0) _ rfl ((((HR3.out.set_ 0 _).set_ 1 _).set_ 2 _).set_ 3 _) Tryd.underlying29 rfl (by kernel_rfl)
    · exact ⟨rfl, (((HB3.out.setCell (p := ⟨W.heap.size + 1, 0, none⟩) (by simp) _).setCell (p := ⟨W.heap.size + 1, 1, none⟩) (by simp) _).setCell (p := ⟨W.heap.size + 1, 2, none⟩) (by simp) _).setCell (p := ⟨W.heap.size + 1, 3, none⟩) (by simp) _⟩
end Go.Proofs.YtflhjcdabbomiaaDoor

namespace Go.Proofs.YtflhjcdabbomiaaDoor
open Go Go.RowKit

theorem ownBd_cap {w : World} {B n c : Nat} {v : Value} {A : Option Addr} {xs : List Bd} (h : OwnBd w B v xs) (hv : v = .slice A n c) : xs.length ≤ c := by
  rcases h.2 with ⟨rfl, h0⟩ | ⟨g, cap, cur, rfl, hg, hh, hnc, _⟩
  · rw [h0]; exact Nat.zero_le _
  · cases hv; exact hnc
set_option maxHeartbeats 4000000 in
set_option maxRecDepth 100000 in
theorem impl_SaveNames_any (x : Sc) (l : ScLay) (A : Option Addr) (n c : Nat) (ns : List ByteArray) (W : World) (hv : ScV W W.heap.size x l) (hs : StI W W.heap.size A n ns) (hn : n ≤ 1048576) (hT : Classes W) :
    Calls Tryd.prog 14 #[x.ag l, .slice A n c] W fun e w' => ∃ A' c', e = .returned (.slice A' (snV x ns).length c') ∧ Hid (RowBd w' W.heap.size w'.heap.size A' (snV x ns) ∧ Below W.heap.size W w') := by
  obtain ⟨i0, hi0, hz0, hz1, hz2⟩ := info_parts infoBd
  obtain ⟨x0, x1, x2⟩ := x
  obtain ⟨A0, n0, c0, h0, A1, n1, c1, h1, A2, n2, c2, h2⟩ := l
  show Calls Tryd.prog 14 #[.agg #[.slice A0 n0 c0, .slice A1 n1 c1, .slice A2 n2 c2], .slice A n c] W _
  have HV := Lib.hid hv
  have HS := Lib.hid hs
  have HN := Lib.hid hn
  have HI := Lib.hid (And.intro hi0 (And.intro hz0 (And.intro hz1 hz2)))
  have HT := Lib.hid (fun (w : World) (hb : Below W.heap.size W w) => classes_up hT hb)
  have HC := Lib.hid (one_newS W 36 #[.slice A0 n0 c0, .slice A1 n1 c1, .slice A2 n2 c2])
  obtain ⟨z1, hz⟩ : ∃ z, tt (ScOk (⟨x0, x1, x2⟩ : Sc)) = z := ⟨_, rfl⟩
  have HZ1 := Lib.hid hz
  obtain ⟨R, hR⟩ : ∃ R, snV ⟨x0, x1, x2⟩ ns = R := ⟨_, rfl⟩
  have HRB : Hid (tt (ScOk (⟨x0, x1, x2⟩ : Sc)) = false → R = []) := fun h => hR ▸ snV_bad h
  have HRN : Hid (∀ (k : Nat) (s : ByteArray), ns[k]? = some s → isNameB s = false → R = []) := fun k s h hz => hR ▸ snV_name h hz
  have HRY : Hid (tt (ScOk (⟨x0, x1, x2⟩ : Sc)) = true → (∀ s ∈ ns, isNameB s = true) → R = ns.map (lkB x0)) := fun h ha => hR ▸ snV_ok h ha
  rw [hR]
  clear hR
  clear hv hs hz hn hT hi0 hz0 hz1 hz2
  cases z1
  · go_enter Tryd.func14, Tryd.ntmps14
    go_wp2_with (go_at_call 30; obtain ⟨g0, g2, g3⟩ := HC.out _ rfl; have HQ := impl_ValidScope_any ⟨x0, x1, x2⟩ ⟨A0, n0, c0, h0, A1, n1, c1, h1, A2, n2, c2, h2⟩ _ (HV.out.go g2) (HT.out _ g2); refine Calls.mono HQ ?_; clear HQ; rintro e w1 ⟨rfl, hb⟩; rw [HZ1.out]; have HB1 := Lib.hid (g2.trans (hb.mono g2.size)); clear g0 g2 g3 hb)
    go_ret
    obtain rfl := HRB.out HZ1.out
    exact ⟨none, 0, rfl, Lib.hid ⟨fun h => by simp at h, HB1.out⟩⟩
  · go_enter Tryd.func14, Tryd.ntmps14
    go_wp2_with (first
      | (go_at_call 30; obtain ⟨g0, g2, g3⟩ := HC.out _ rfl; have HQ := impl_ValidScope_any ⟨x0, x1, x2⟩ ⟨A0, n0, c0, h0, A1, n1, c1, h1, A2, n2, c2, h2⟩ _ (HV.out.go g2) (HT.out _ g2); refine Calls.mono HQ ?_; clear HQ; rintro e w1 ⟨rfl, hb⟩; rw [HZ1.out]; have HB1 := Lib.hid (g2.trans (hb.mono g2.size)); have HR1 := Lib.hid (g0.below hb g3); have HL1 : Hid (W.heap.size < w1.heap.size) := Nat.lt_of_lt_of_le g3 hb.size; clear g0 g2 g3 hb)
      | (go_at_call 35; refine (firstWhereS_any A n c ns _ (HS.out.go HB1.out) HN.out (HT.out _ HB1.out)).mono ?_; rintro e w2 ⟨i, rfl, h⟩; obtain ⟨hi, hb⟩ := h.out; have HB2 := Lib.hid (HB1.out.trans (hb.mono HB1.out.size)); have HR2 := Lib.hid (HR1.out.below hb HL1.out); have HL2 : Hid (W.heap.size < w2.heap.size) := Nat.lt_of_lt_of_le HL1.out hb.size; clear hb h HB1 HR1 HL1; rcases hi with ⟨hi, k, s, hks, hzs⟩ | ⟨rfl, hall⟩))
    · obtain rfl := HRN.out _ _ hks hzs
      go_ret
      exact ⟨none, 0, rfl, Lib.hid ⟨fun h => by simp at h, HB2.out⟩⟩
    · obtain rfl := HRY.out HZ1.out hall
      have HUP := Lib.hid (of_tt HZ1.out).1
      clear hall
      have HO1 : Hid (OwnBd w2 (W.heap.size + 1) (.slice none 0 0) []) := ⟨rfl, .inl ⟨rfl, rfl⟩⟩
      go_loopw [5, 18] (fun v q wr => ∃ k : Nat, k ≤ n ∧ q = .int .i64 k ∧ Hid (OwnBd wr (W.heap.size + 1) v ((ns.take k).map (lkB x0))) ∧ Hid (RW 36 wr W.heap.size #[.slice A0 n0 c0, .slice A1 n1 c1, .slice A2 n2 c2]) ∧ Hid (Below W.heap.size W wr)) (fun _ q _ => n - (intOf q).toNat)
      case atStart => exact ⟨0, Nat.zero_le _, rfl, HO1, HR2, HB2⟩
      case round =>
        clear HO1 HR2 HB2 HL2
        obtain ⟨k, hk, rfl, HO, HR, HB⟩ := hrel
        by_cases hlt : k < n
        · have HKN : Hid (k < n) := hlt
          obtain ⟨b, off, s, rfl, hg, hx, p0, hsz⟩ := ((HS.out.below HB.out)).at_ hlt
          have HX := Lib.hid hx
          have b0 : (0 : Int) ≤ (k : Int) := by omega
          have b1 : (k : Int) < (n : Int) := by omega
          have q0 := HR.out.cell 0
          have q1 := HR.out.cell 1
          have q2 := HR.out.cell 2
          clear hx hsz hg
          obtain ⟨A9, c9, rfl, hrow⟩ := ownBd_row HO.out
          clear hrow
          have hm2 : ((ns.take k).map (lkB x0)).length ≤ 1048575 := by rw [List.length_map, List.length_take]; have := HN.out; omega
          have HTK : Hid (ns.take (k + 1) = ns.take k ++ [s]) := by show _ = _; rw [List.take_add_one, HX.out]; rfl
          generalize hys : (ns.take k).map (lkB x0) = ys at HO hm2
          have HYS := Lib.hid hys
          clear hys
          have HBN := lkB_spec x0 s
          have HLS := Lib.hid HBN.2
          obtain ⟨y, hy⟩ : ∃ y, lkB x0 s = y := ⟨_, rfl⟩
          rw [hy] at HLS
          have HY := Lib.hid hy
          have HYN : Hid (y.name_ = s) := by show _ = _; rw [← hy]; exact HBN.1
          clear HBN hy
          have hn5 := HN.out
          have hkn5 := HKN.out
          go_wp2_with (first
            | (go_at_call 32; refine (valueOf_any A0 A1 A2 n0 c0 n1 c1 n2 c2 x0 s y.kind_ y.num_ y.text_ y.ref_ _ (HV.out.go HB.out).1 HUP.out HLS.out).mono ?_; rintro e w3 ⟨rfl, hb⟩; have HB3 : Hid (Below W.heap.size W w3) := HB.out.trans (hb.mono HB.out.size); have HO3 : Hid (OwnBd w3 (W.heap.size + 1) (.slice A9 ys.length c9) ys) := ownBd_keep HO.out hb; have HRW3 := Lib.hid (HR.out.below hb HR.out.lt); have HAZ : Hid (∀ o, W.heap.size < (w3.alloc o).heap.size) := (fun o => Nat.lt_of_lt_of_le (Nat.lt_of_lt_of_le HR.out.lt hb.size) (by rw [alloc_sz]; exact Nat.le_succ _)); have N1 : Hid (some W.heap.size ≠ (Value.slice A9 ys.length c9).ownBlock) := (fun e' => absurd (ownBd_ge HO3.out W.heap.size e'.symm) (by omega)); clear hb)
            | (at_builtin; refine wpList_append_own _ rfl _ _ 32 rfl (W.heap.size + 1) 63 i0 (.agg #[.string ⟨#[]⟩, .int .i64 0, .int .i64 0, .string ⟨#[]⟩, .int .i64 0]) 5 56 Tryd.underlying32 HI.out.1 HI.out.2.1 HI.out.2.2.1 HI.out.2.2.2 rfl (by decide) _ _ _ rfl (HO3.out.alloc _) ⟨_, 0, none⟩ 1 1 [.string s, .int .i64 y.kind_, .int .i64 y.num_, .string y.text_, .int .i64 y.ref_] rfl rfl (cell_five_new _ _ _ _ _ _ _) (fun x hx => by simp at hx; rcases hx with rfl | rfl | rfl | rfl | rfl <;> rfl) (by unfold maxLen; omega) (by omega) (HAZ.out _) ?_; intro v1 w7 hown1 hgr1 _))
          go_roundw
          case rel =>
            refine ⟨k + 1, hkn5, by go_num, ?_, ?_, ?_⟩
            · refine Lib.hid ?_
              rw [HTK.out, List.map_append, HYS.out, List.map_singleton, HY.out]
              have e : y.vs = [.string s, .int .i64 y.kind_, .int .i64 y.num_, .string y.text_, .int .i64 y.ref_] := by unfold Bd.vs; rw [HYN.out]
              exact ownBd_snoc y (by rw [e]; exact hown1) rfl
            · exact Lib.hid ((hgr1.block W.heap.size (HAZ.out _) N1.out).trans (show RW 36 _ W.heap.size _ from HRW3.out.alloc _))
            · exact Lib.hid ((HB3.out.alloc HB3.out.size _).grown hgr1 (Nat.le_of_lt (HAZ.out _)) (fun b hb => by have := ownBd_ge HO3.out b hb; omega))
          case measure => simp [intOf]; omega
        · have hkn : k = n := by omega
          have hns : ns.take k = ns := List.take_of_length_le (by have := HS.out.1; omega)
          rw [hns] at HO
          obtain ⟨A', c', hv, hr⟩ := ownBd_row HO.out
          have hcap := ownBd_cap HO.out hv
          rw [List.length_map] at hcap
          have HRR := Lib.hid (hr.lower (Nat.le_succ _))
          subst hv
          clear hkn hr hns
          go_wp2_with (fail)
          go_ret
          exact ⟨A', ⟨ns.length, rfl⟩, Lib.hid ⟨HRR.out, HB.out⟩⟩
end Go.Proofs.YtflhjcdabbomiaaDoor

namespace Go.Proofs.YtflhjcdabbomiaaDoor
open Go Go.RowKit

/-- Of what was there only blocks of S have turned; every row is still a row, as long as it was. -/
def Mut (S : Nat → Prop) (w w' : World) : Prop := w'.os = w.os ∧ w'.tape = w.tape ∧ w'.output = w.output ∧ w.heap.size ≤ w'.heap.size ∧ (∀ j, j < w.heap.size → ¬ S j → w'.heap[j]? = w.heap[j]?) ∧ ∀ (b : Nat) (cs : Array Value), RW 9 w b cs → ∃ cs', RW 9 w' b cs' ∧ cs'.size = cs.size
theorem Mut.refl (S : Nat → Prop) (w : World) : Mut S w w := ⟨rfl, rfl, rfl, Nat.le_refl _, fun _ _ _ => rfl, fun b cs h => ⟨cs, h, rfl⟩⟩
theorem Mut.trans {S : Nat → Prop} {a b c : World} (h : Mut S a b) (h' : Mut S b c) : Mut S a c := by
  obtain ⟨h1, h2, h3, h4, h5, h6⟩ := h
  obtain ⟨k1, k2, k3, k4, k5, k6⟩ := h'
  refine ⟨k1.trans h1, k2.trans h2, k3.trans h3, Nat.le_trans h4 k4, fun j hj hn => (k5 j (Nat.lt_of_lt_of_le hj h4) hn).trans (h5 j hj hn), fun b cs hr => ?_⟩
  obtain ⟨cs1, r1, s1⟩ := h6 b cs hr
  obtain ⟨cs2, r2, s2⟩ := k6 b cs1 r1
  exact ⟨cs2, r2, s2.trans s1⟩
theorem Mut.mono {S S' : Nat → Prop} {a b : World} (h : Mut S a b) (hS : ∀ j, S j → S' j) : Mut S' a b := ⟨h.1, h.2.1, h.2.2.1, h.2.2.2.1, fun j hj hn => h.2.2.2.2.1 j hj fun hs => hn (hS j hs), h.2.2.2.2.2⟩
theorem Mut.of_below {S : Nat → Prop} {a b : World} (h : Below a.heap.size a b) : Mut S a b := ⟨h.os, h.tape, h.output, h.size, fun j hj _ => h.block j hj, fun g cs hr => ⟨cs, hr.below h hr.lt, rfl⟩⟩
theorem RW.same {T T' : TypeId} {w : World} {g : Nat} {cs cs' : Array Value} (h : RW T w g cs) (h' : RW T' w g cs') : T = T' ∧ cs = cs' := by
  have e := (show w.heap[g]? = some (.cells cs T (0, 0)) from h).symm.trans (show w.heap[g]? = some (.cells cs' T' (0, 0)) from h')
  simp only [Option.some.injEq, Obj.cells.injEq, and_true] at e
  exact ⟨e.2, e.1⟩
theorem Mut.of_set {S : Nat → Prop} {T : TypeId} {w : World} {g : Nat} {cs : Array Value} (h : RW T w g cs) (hS : S g) (i : Nat) (v : Value) : Mut S w (w.setCell ⟨g, i, none⟩ v) := by
  refine ⟨rfl, rfl, rfl, by rw [size_set]; exact Nat.le_refl _, fun j _ hne => Below.heap_setCell w ⟨g, i, none⟩ v j (fun e => hne (by rw [e]; exact hS)), fun b cs' hr => ?_⟩
  by_cases e : b = g
  · subst e
    exact ⟨_, hr.set_ i v, by simp⟩
  · exact ⟨cs', hr.other (p := ⟨g, i, none⟩) e v, rfl⟩
theorem Mut.below {S : Nat → Prop} {a b : World} {B : Nat} (h : Mut S a b) (hS : ∀ j, S j → B ≤ j) (hB : B ≤ a.heap.size) : Below B a b := ⟨h.1, h.2.1, h.2.2.1, h.2.2.2.1, fun j hj => h.2.2.2.2.1 j (by omega) fun hs => by have := hS j hs; omega⟩
/-- A row that does not turn. -/
theorem Mut.row {S : Nat → Prop} {a b : World} {T : TypeId} {g : Nat} {cs : Array Value} (h : Mut S a b) (hr : RW T a g cs) (hn : ¬ S g) : RW T b g cs := (h.2.2.2.2.1 g hr.lt hn).trans hr
/-- A row of another kind turns. -/
theorem Mut.of_gb {w w' : World} {T : TypeId} {g : Nat} {cs : Array Value} (h : w.grownBy w' (some g)) (hr : RW T w g cs) (hT : 9 ≠ T) : Mut (fun b => b = g) w w' :=
  ⟨h.os, h.tape, h.output, h.size, fun j hj hn => h.block j hj (fun e => hn (Option.some.inj e)), fun b cs' hb => ⟨cs', (h.block b hb.lt (fun e => by have e' := Option.some.inj e; subst e'; exact hT (RW.same hb hr).1)).trans hb, rfl⟩⟩
/-- What holds by blocks a .. b - 1 alone still holds. -/
theorem Mut.det {S : Nat → Prop} {w w' : World} {a b : Nat} {P : World → Prop} (h : Mut S w w') (hd : Det a b w P) (hb : b ≤ w.heap.size) (hS : ∀ j, a ≤ j → j < b → ¬ S j) : Det a b w' P := hd.keep fun g h1 h2 => h.2.2.2.2.1 g (by omega) (hS g h1 h2)

/-- A row of strings that can be marked. -/
def StW (w : World) (A : Option Addr) (n : Nat) : Prop := 0 < n → ∃ b cs, A = some ⟨b, 0, none⟩ ∧ RW 9 w b cs ∧ n ≤ cs.size
theorem StW.mut {w w' : World} {A : Option Addr} {n : Nat} {S : Nat → Prop} (h : StW w A n) (hm : Mut S w w') : StW w' A n := fun hn => by
  obtain ⟨b, cs, e, hr, hs⟩ := h hn
  obtain ⟨cs', hr', hs'⟩ := hm.2.2.2.2.2 b cs hr
  exact ⟨b, cs', e, hr', by omega⟩
theorem StW.below {w w' : World} {A : Option Addr} {n B : Nat} (h : StW w A n) (hA : ∀ a, A = some a → a.block < B) (hb : Below B w w') : StW w' A n := fun hn => by
  obtain ⟨b, cs, e, hr, hs⟩ := h hn
  exact ⟨b, cs, e, hr.below hb (hA _ e), hs⟩
/-- Its block. -/
def Blk1 (A : Option Addr) (n : Nat) (b : Nat) : Prop := 0 < n ∧ A = some ⟨b, 0, none⟩
/-- A slice of strings, of one's own. -/
def StIO (w : World) (B : Nat) (A : Option Addr) (n : Nat) (xs : List St) : Prop := StI w B A n xs ∧ StW w A n
theorem StIO.blk {w : World} {B : Nat} {A : Option Addr} {n : Nat} {xs : List St} (h : StIO w B A n xs) : ∀ b, Blk1 A n b → b < B := fun b hb => by
  obtain ⟨b', off, e, hg, _⟩ := h.1.2.2 hb.1
  rw [hb.2] at e
  simp only [Option.some.injEq, Addr.mk.injEq, and_true] at e
  omega
theorem StIO.below {w w' : World} {B : Nat} {A : Option Addr} {n : Nat} {xs : List St} (h : StIO w B A n xs) (hb : Below B w w') : StIO w' B A n xs := ⟨h.1.below hb, fun hn => by
  obtain ⟨b, cs, e, hr, hs⟩ := h.2 hn
  exact ⟨b, cs, e, hr.below hb (h.blk b ⟨hn, e⟩), hs⟩⟩
theorem StIO.more {w : World} {B B' : Nat} {A : Option Addr} {n : Nat} {xs : List St} (h : StIO w B A n xs) (hB : B ≤ B') : StIO w B' A n xs := ⟨h.1.more hB, h.2⟩
theorem StIO.others {B n b off : Nat} {xs : List St} {g : Nat} (hp : b ≠ g) {vs : List Value} {w : World} {o : Nat} (h : StIO w B (some ⟨b, off, none⟩) n xs) : StIO (w.setCells g o vs) B (some ⟨b, off, none⟩) n xs := ⟨StI.others hp h.1, fun hn => by
  obtain ⟨b', cs, e, hr, hs⟩ := h.2 hn
  simp only [Option.some.injEq, Addr.mk.injEq, and_true] at e
  obtain ⟨rfl, rfl⟩ := e
  exact ⟨b, cs, rfl, hr.others hp, hs⟩⟩
theorem StIO.det {w : World} {B n b off : Nat} {xs : List St} (h : StIO w B (some ⟨b, off, none⟩) n xs) : Det b B w fun w => StIO w B (some ⟨b, off, none⟩) n xs := fun w' k => ⟨h.1.det w' k, fun hn => by
  obtain ⟨b', cs, e, hr, hs⟩ := h.2 hn
  have hlt := h.blk b' ⟨hn, e⟩
  simp only [Option.some.injEq, Addr.mk.injEq, and_true] at e
  obtain ⟨rfl, rfl⟩ := e
  exact ⟨b, cs, rfl, (k b (Nat.le_refl _) hlt).trans hr, hs⟩⟩
end Go.Proofs.YtflhjcdabbomiaaDoor

namespace Go.Proofs.YtflhjcdabbomiaaDoor
open Go Go.RowKit

def BdIO (w : World) (B : Nat) (A : Option Addr) (n : Nat) (xs : List Bd) : Prop := BdI w B A n xs ∧ (0 < n → ∃ g cs, A = some ⟨g, 0, none⟩ ∧ g < B ∧ RW 63 w g cs ∧ n * 5 ≤ cs.size)
theorem BdIO.below {w w' : World} {B n : Nat} {A : Option Addr} {xs : List Bd} (h : BdIO w B A n xs) (hb : Below B w w') : BdIO w' B A n xs := ⟨h.1.below hb, fun hn => by
  obtain ⟨g, cs, e, hg, hr, hc⟩ := h.2 hn
  exact ⟨g, cs, e, hg, hr.below hb hg, hc⟩⟩
theorem BdIO.more {w : World} {B B' n : Nat} {A : Option Addr} {xs : List Bd} (h : BdIO w B A n xs) (hB : B ≤ B') : BdIO w B' A n xs := ⟨h.1.more hB, fun hn => by
  obtain ⟨g, cs, e, hg, hr, hc⟩ := h.2 hn
  exact ⟨g, cs, e, by omega, hr, hc⟩⟩
theorem BdIO.det {w : World} {B n b off : Nat} {xs : List Bd} (h : BdIO w B (some ⟨b, off, none⟩) n xs) : Det b B w fun w => BdIO w B (some ⟨b, off, none⟩) n xs := fun w' k => ⟨h.1.det w' k, fun hn => by
  obtain ⟨g, cs, e, hg, hr, hc⟩ := h.2 hn
  simp only [Option.some.injEq, Addr.mk.injEq, and_true] at e
  obtain ⟨rfl, rfl⟩ := e
  exact ⟨b, cs, rfl, hg, (k b (Nat.le_refl _) hg).trans hr, hc⟩⟩
/-- What toBindingS answers. -/
def ToBdO (xs : List Bd) (n : Nat) (W : World) (e : Ending) (w' : World) : Prop :=
  e = .returned (.slice (some ⟨W.heap.size, 0, none⟩) n n) ∧ Hid (BdIO w' w'.heap.size (some ⟨W.heap.size, 0, none⟩) n xs ∧ Below W.heap.size W w')
theorem toBindingS_own (A : Option Addr) (n c : Nat) (xs : List Bd) (W : World) (hr : BdI W W.heap.size A n xs) (hn : n ≤ 1048576) :
    Calls Tryd.prog 27 #[.slice A n c] W (ToBdO xs n W) := by
  refine (toBindingS_row A n c xs W hr hn).mono ?_
  rintro e w' ⟨rfl, h⟩
  obtain ⟨hf, hlt, hb⟩ := h.out
  refine ⟨rfl, Lib.hid ⟨⟨hf.toI hlt hr.1 hr.2.1 hr.sizes, fun _ => ?_⟩, hb⟩⟩
  obtain ⟨cs, h1, h2, _⟩ := hf
  exact ⟨_, cs, rfl, hlt, h1, h2⟩
end Go.Proofs.YtflhjcdabbomiaaDoor

namespace Go.Proofs.YtflhjcdabbomiaaDoor
open Go Go.RowKit

/-- What toStringS answers: a slice at the head of the first new block. -/
def ToStO (xs : List St) (n : Nat) (W : World) (e : Ending) (w' : World) : Prop :=
  e = .returned (.slice (some ⟨W.heap.size, 0, none⟩) n n) ∧ Hid (StIO w' w'.heap.size (some ⟨W.heap.size, 0, none⟩) n xs ∧ Below W.heap.size W w')

set_option maxHeartbeats 2000000 in
set_option maxRecDepth 100000 in
theorem toStringS_own (A : Option Addr) (n c : Nat) (xs : List St) (W : World) (hr : StI W W.heap.size A n xs) (hn : n ≤ 1048576) :
    Calls Tryd.prog 13 #[.slice A n c] W (ToStO xs n W) := by
  obtain ⟨i0, hi, hz0, hz1, hz2⟩ := info_parts infoSt
  have HR := Lib.hid hr
  have h1 : (n : Int) ≤ 1048576 := by omega
  clear hr
  go_enter Tryd.func13, Tryd.ntmps13
  go_wp2_with (at_make; refine wpList_make_full _ rfl _ _ 41 rfl W.heap.size 9 i0 (.string ⟨#[]⟩) 1 Tryd.underlying41 hi hz0 hz1 .i64 .i64 n n n rfl rfl rfl rfl (by rw [hz2]; omega) (by unfold maxLen; omega) (Nat.le_refl _) ?_)
  intro w1 hown hgrow
  have HB1 : Hid (Below W.heap.size W w1) := below_grown_none hgrow
  obtain ⟨cs, hcs, hcn⟩ := ownSt hown
  have HG : Hid (W.heap.size < w1.heap.size) := hcs.lt
  have HM : Hid (FilledSt w1 W.heap.size 0 n xs) := ⟨cs, hcs, hcn, fun i x hi => absurd hi (by omega)⟩
  clear hown hgrow hcs hcn hi hz0 hz1 hz2
  go_wp2_with fail
  go_loopw [4] (fun i wr => ∃ j : Nat, j ≤ n ∧ i = .int .i64 j ∧ Hid (Below W.heap.size W wr) ∧ Hid (W.heap.size < wr.heap.size) ∧ Hid (FilledSt wr W.heap.size j n xs)) (fun i _ => n - (intOf i).toNat)
  case atStart => exact ⟨0, Nat.zero_le _, rfl, HB1, HG, HM⟩
  case round =>
    obtain ⟨j, hj, rfl, HW, HZ, HJ⟩ := hrel
    by_cases hlt : j < n
    · obtain ⟨b, off, x, rfl, hg, hx, q0, hxs⟩ := (HR.out.below HW.out).at_ hlt
      have HX := Lib.hid hx
      obtain ⟨cs, hs, hcs, hm⟩ := HJ.out
      have HSB := Lib.hid hs
      have HMM := Lib.hid hm
      have HL0 : Hid (j < cs.size) := by show _ < _; omega
      have HCS := Lib.hid hcs
      have p0 := (hs.cell j).trans (Array.getElem?_eq_getElem HL0.out)
      have z0 := hs.frozen j
      have b0 : (0 : Int) ≤ (j : Int) := by omega
      have b1 : (j : Int) < (n : Int) := by omega
      clear hs hm hx hxs hg hcs
      go_wp2_with fail
      go_roundw
      case rel =>
        refine ⟨j + 1, by omega, by go_num, ?_, ?_, ?_⟩
        · exact HW.out.setCell (Nat.le_refl _) _
        · have h2 := HZ.out
          show _ < _
          simp [World.setCell]
          omega
        · refine ⟨_, (HSB.out).set_ _ _, by simpa using HCS.out, fun i y hi hxi => ?_⟩
          by_cases e : i = j
          · subst e
            rw [HX.out, Option.some.injEq] at hxi
            subst hxi
            rw [Array.getElem?_setIfInBounds_self_of_lt HL0.out]
          · rw [Array.getElem?_setIfInBounds_ne (by omega)]
            exact HMM.out i y (by omega) hxi
      case measure => simp [intOf]; omega
    · have HN : Hid (j = n) := by show _ = _; omega
      go_wp2_with fail
      go_ret
      refine ⟨rfl, Lib.hid ⟨⟨⟨HR.out.1, HR.out.2.1, fun _ => ⟨W.heap.size, 0, rfl, HZ.out, fun i x hx => ?_⟩⟩, fun _ => ?_⟩, HW.out⟩⟩
      · obtain ⟨cs, hs, hcs, hm⟩ := HJ.out
        have hil : i < xs.length := (List.getElem?_eq_some_iff.1 hx).1
        have hij : i < j := by have := HN.out; have := HR.out.1; omega
        obtain ⟨_, _, _, _, hc⟩ := HR.out.2.2 (by have := HR.out.1; omega)
        rw [Nat.zero_add]
        exact ⟨(hs.cell _).trans (hm i x hij hx), (hc i x hx).2⟩
      · obtain ⟨cs, hs, hcs, _⟩ := HJ.out
        exact ⟨_, cs, rfl, hs, hcs⟩
end Go.Proofs.YtflhjcdabbomiaaDoor
