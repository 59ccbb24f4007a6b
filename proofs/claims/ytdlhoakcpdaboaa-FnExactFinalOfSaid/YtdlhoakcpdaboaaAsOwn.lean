/- Rows of Assignment of one's own; laws.markAssignmentS, heldAssignmentS. No condition. -/
import Derived.Test.YtdlhoakcpdaboaaAsEq
import Derived.Test.YtdlhoakcpdaboaaMark
import Derived.Test.YtdlhoakcpdaboaaStrs0
import Derived.Laws.OwnMore
import Derived.Maps.AppendAt
import Derived.IntWalk
namespace Go.Proofs.Ytdlhoakcpdaboaa
open Go Go.RowKit

def cellsAs : List As → List Value
  | [] => []
  | x :: xs => x.vs ++ cellsAs xs
theorem As.vs_len (x : As) : x.vs.length = 4 := rfl
theorem cellsAs_len : ∀ xs : List As, (cellsAs xs).length = xs.length * 4
  | [] => rfl
  | x :: xs => by rw [cellsAs, List.length_append, cellsAs_len xs, As.vs_len, List.length_cons]; omega
theorem cellsAs_append : ∀ xs ys : List As, cellsAs (xs ++ ys) = cellsAs xs ++ cellsAs ys
  | [], ys => rfl
  | x :: xs, ys => by rw [List.cons_append, cellsAs, cellsAs, cellsAs_append xs ys, List.append_assoc]
theorem cellsAs_at {x : As} {q : Nat} {v : Value} (hv : x.vs[q]? = some v) : ∀ {xs : List As} {j : Nat}, xs[j]? = some x → (cellsAs xs)[j * 4 + q]? = some v
  | [], j, h => by simp at h
  | y :: ys, 0, h => by
    simp only [List.getElem?_cons_zero, Option.some.injEq] at h
    subst h
    have hq : q < 4 := (List.getElem?_eq_some_iff.1 hv).1
    rw [cellsAs, List.getElem?_append_left (by rw [As.vs_len]; omega), Nat.zero_mul, Nat.zero_add]
    exact hv
  | y :: ys, j + 1, h => by
    rw [cellsAs, List.getElem?_append_right (by rw [As.vs_len]; omega), As.vs_len, show (j + 1) * 4 + q - 4 = j * 4 + q by omega]
    exact cellsAs_at hv (by simpa using h)
/-- A list with cells stored from place o on. -/
def putV : List Value → Nat → List Value → List Value
  | cs, _, [] => cs
  | cs, o, v :: r => putV (cs.set o v) (o + 1) r
theorem putV_skip (a : List Value) : ∀ (vs b : List Value) (o : Nat), a.length ≤ o → putV (a ++ b) o vs = a ++ putV b (o - a.length) vs
  | [], _, _, _ => rfl
  | v :: r, b, o, h => by
    rw [putV, putV, List.set_append_right _ _ h, putV_skip a r _ _ (by omega)]
    rw [show o + 1 - a.length = o - a.length + 1 by omega]
theorem putV_head (b : List Value) : ∀ (vs a : List Value) (p : List Value), a.length = vs.length → putV (p ++ (a ++ b)) p.length vs = p ++ (vs ++ b)
  | [], a, p, h => by rw [List.eq_nil_of_length_eq_zero h]; rfl
  | v :: r, [], p, h => by simp at h
  | v :: r, u :: a, p, h => by
    rw [putV, List.cons_append, List.set_append_right _ _ (Nat.le_refl _), Nat.sub_self, List.set_cons_zero]
    have := putV_head b r a (p ++ [v]) (by simpa using h)
    rw [List.length_append, List.length_singleton, List.append_assoc, List.singleton_append] at this
    rw [this, List.append_assoc]
    rfl
theorem cellsAs_set (y : As) : ∀ (xs : List As) (j : Nat), j < xs.length → putV (cellsAs xs) (j * 4) y.vs = cellsAs (xs.set j y)
  | [], j, h => by simp at h
  | x :: xs, 0, _ => by
    rw [cellsAs, Nat.zero_mul, List.set_cons_zero, cellsAs]
    exact putV_head (cellsAs xs) y.vs x.vs [] (by rw [As.vs_len, As.vs_len])
  | x :: xs, j + 1, h => by
    rw [cellsAs, putV_skip _ _ _ _ (by rw [As.vs_len]; omega), As.vs_len, show (j + 1) * 4 - 4 = j * 4 by omega, cellsAs_set y xs j (by simpa using h), List.set_cons_succ, cellsAs]

/-- A row of one's own. -/
abbrev OwnAs (w : World) (B : Nat) (v : Value) (xs : List As) : Prop := w.ownsRow B 52 4 v xs.length (cellsAs xs)
/-- The cells of a row that is handed back. -/
def RowAs (w : World) (B C : Nat) (A : Option Addr) (xs : List As) : Prop :=
  0 < xs.length → ∃ g cs, A = some ⟨g, 0, none⟩ ∧ B ≤ g ∧ g < C ∧ RW 52 w g cs ∧ xs.length * 4 ≤ cs.size ∧ ∀ (j q : Nat) (x : As) (v : Value), xs[j]? = some x → x.vs[q]? = some v → cs[j * 4 + q]? = some v
theorem RowAs.below {w w' : World} {B C D : Nat} {A : Option Addr} {xs : List As} (h : RowAs w B C A xs) (hb : Below D w w') (hD : C ≤ D) : RowAs w' B C A xs := fun hn => by
  obtain ⟨g, cs, e, h1, h2, h3, h4, h5⟩ := h hn
  exact ⟨g, cs, e, h1, h2, h3.below hb (by omega), h4, h5⟩
theorem RowAs.toI {w : World} {B C : Nat} {A : Option Addr} {xs : List As} (h : RowAs w B C A xs) (hm : xs.length ≤ maxLen) (hs0 : ∀ x ∈ xs, x.name_.size ≤ maxLen) (hs1 : ∀ x ∈ xs, x.text_.size ≤ maxLen) : AsI w C A xs.length xs := ⟨rfl, hm, fun hn => by
  obtain ⟨g, cs, e, h1, h2, h3, h4, h5⟩ := h hn
  refine ⟨g, 0, e, h2, fun j x hx => ⟨?_, hs0 x (List.mem_of_getElem? hx), hs1 x (List.mem_of_getElem? hx)⟩⟩
  rw [Nat.zero_add]
  exact ⟨(h3.cell _).trans (h5 j 0 x _ hx rfl), (h3.cell _).trans (h5 j 1 x _ hx rfl), (h3.cell _).trans (h5 j 2 x _ hx rfl), (h3.cell _).trans (h5 j 3 x _ hx rfl)⟩⟩
theorem ownAs_row {w : World} {B : Nat} {v : Value} {xs : List As} (h : OwnAs w B v xs) : ∃ A c, v = .slice A xs.length c ∧ RowAs w B w.heap.size A xs := by
  rcases h.2 with ⟨rfl, h0⟩ | ⟨g, cap, cur, rfl, hg, hh, hnc, _, hcs, ht⟩
  · exact ⟨none, 0, by rw [h0], fun hn => by omega⟩
  · refine ⟨some ⟨g, 0, none⟩, cap, rfl, fun _ => ⟨g, cur, rfl, hg, RW.lt hh, hh, by rw [hcs]; exact Nat.mul_le_mul_right _ hnc, fun j q x v hx hq => ?_⟩⟩
    have hj : j < xs.length := (List.getElem?_eq_some_iff.1 hx).1
    have hq2 : q < 4 := (List.getElem?_eq_some_iff.1 hq).1
    have h1 := congrArg (·[j * 4 + q]?) ht
    simp only [List.getElem?_take, if_pos (show j * 4 + q < xs.length * 4 by omega), cellsAs_at hq hx] at h1
    rw [← h1, Array.getElem?_toList]
theorem ownAs_keep {w w' : World} {B : Nat} {v : Value} {xs : List As} (h : OwnAs w B v xs) (hb : Below w.heap.size w w') : OwnAs w' B v xs :=
  h.kept ⟨hb.os, hb.tape, hb.output, hb.size, fun j hj _ => hb.block j hj⟩ (row := none) (by cases hv : v.ownBlock <;> simp)
theorem ownAs_snoc {w : World} {B n : Nat} {v : Value} {xs : List As} (x : As) (h : w.ownsRow B 52 4 v (n + 1) (cellsAs xs ++ x.vs)) (hn : xs.length = n) : OwnAs w B v (xs ++ [x]) := by
  unfold OwnAs
  rw [cellsAs_append, List.length_append, hn]
  show World.ownsRow _ _ _ _ _ (n + 1) (cellsAs xs ++ (x.vs ++ []))
  rw [List.append_nil]
  exact h
theorem ownAs_ge {w : World} {B n : Nat} {v : Value} {cs : List Value} (h : w.ownsRow B 52 4 v n cs) : ∀ k, v.ownBlock = some k → B ≤ k := by
  intro k hk
  rcases h.2 with ⟨rfl, _⟩ | ⟨g, cap, cur, rfl, hg, _⟩
  · cases hk
  · cases hk; exact hg
/-- A row that is not empty: its block, its cells. -/
theorem ownAs_some {w : World} {B : Nat} {v : Value} {xs : List As} (h : OwnAs w B v xs) (hn : 0 < xs.length) : ∃ g c, v = .slice (some ⟨g, 0, none⟩) xs.length c ∧ B ≤ g ∧ g < w.heap.size ∧
    ∀ (j q : Nat) (x : As) (u : Value), xs[j]? = some x → x.vs[q]? = some u → w.cell? ⟨g, j * 4 + q, none⟩ = some u ∧ w.frozen? ⟨g, j * 4 + q, none⟩ = false := by
  obtain ⟨A, c, e, hr⟩ := ownAs_row h
  obtain ⟨g, cs, rfl, h1, h2, h3, h4, h5⟩ := hr hn
  exact ⟨g, c, e, h1, h2, fun j q x u hx hu => ⟨(h3.cell _).trans (h5 j q x u hx hu), h3.frozen _⟩⟩
theorem ownAs_putV {B g c n : Nat} : ∀ (vs cs : List Value) (o : Nat) {w : World}, w.ownsRow B 52 4 (.slice (some ⟨g, 0, none⟩) n c) n cs → (w.setCells g o vs).ownsRow B 52 4 (.slice (some ⟨g, 0, none⟩) n c) n (putV cs o vs)
  | [], cs, o, w, h => h
  | v :: r, cs, o, w, h => ownAs_putV r (cs.set o v) (o + 1) (World.ownsRow.stored h o v).1
/-- An element is stored anew. -/
theorem ownAs_set {w : World} {B g c : Nat} {xs : List As} {j : Nat} (y : As) (h : OwnAs w B (.slice (some ⟨g, 0, none⟩) xs.length c) xs) (hj : j < xs.length) :
    OwnAs (w.setCells g (j * 4) y.vs) B (.slice (some ⟨g, 0, none⟩) xs.length c) (xs.set j y) := by
  unfold OwnAs
  rw [List.length_set, ← cellsAs_set y xs j hj]
  exact ownAs_putV y.vs _ _ h

theorem gb_refl (w : World) (r : Option Nat) : w.grownBy w r := ⟨rfl, rfl, rfl, Nat.le_refl _, fun _ _ _ => rfl⟩
theorem gb_trans {a b c : World} {r : Option Nat} (h : a.grownBy b r) (h' : b.grownBy c r) : a.grownBy c r :=
  ⟨h'.os.trans h.os, h'.tape.trans h.tape, h'.output.trans h.output, Nat.le_trans h.size h'.size, fun j hj hne => (h'.block j (Nat.lt_of_lt_of_le hj h.size) hne).trans (h.block j hj hne)⟩
theorem gb_below {w w' : World} (h : Below w.heap.size w w') (r : Option Nat) : w.grownBy w' r := ⟨h.os, h.tape, h.output, h.size, fun j hj _ => h.block j hj⟩
theorem gb_set (w : World) (g i : Nat) (v : Value) : w.grownBy (w.setCell ⟨g, i, none⟩ v) (some g) :=
  ⟨rfl, rfl, rfl, by rw [size_set]; exact Nat.le_refl _, fun j _ hne => Below.heap_setCell w ⟨g, i, none⟩ v j (fun e => hne (by rw [e]))⟩
theorem gb_base {w w' : World} {g B : Nat} (h : w.grownBy w' (some g)) (hB : B ≤ g) (hw : B ≤ w.heap.size) : Below B w w' := ⟨h.os, h.tape, h.output, h.size, fun j hj => h.block j (by omega) (fun e => by have := Option.some.inj e; omega)⟩
theorem digits_size : ∀ (n k : Nat) (acc : ByteArray), k < 10 ^ n → (digitsOf k acc).size ≤ n + acc.size
  | 0, k, acc, h => by
    obtain rfl : k = 0 := by simpa using h
    rw [digitsOf_zero]
    omega
  | n + 1, k, acc, h => by
    by_cases hk : k = 0
    · rw [hk, digitsOf_zero]; omega
    · rw [digitsOf_step (by omega)]
      have := digits_size n (k / 10) (⟨#[48 + UInt8.ofNat (k % 10)]⟩ ++ acc) (by rw [Nat.pow_succ] at h; omega)
      rw [ByteArray.size_append] at this
      have e : (⟨#[48 + UInt8.ofNat (k % 10)]⟩ : ByteArray).size = 1 := rfl
      omega
theorem mark_size {k : Nat} (h : k < 10 ^ 9) : (markT k).size ≤ maxLen := by
  have := digits_size 9 k ⟨#[]⟩ h
  unfold markT
  rw [ByteArray.size_append]
  have e1 : (⟨#[109]⟩ : ByteArray).size = 1 := rfl
  have e2 : (⟨#[]⟩ : ByteArray).size = 0 := rfl
  unfold maxLen
  omega

/-- The marks, from the number k0 on. -/
def markAs (k0 i : Nat) : As := ⟨markT (k0 + i * 4), markT (k0 + i * 4 + 1), decide ((k0 + i * 4 + 2) % 3 = 0), ((k0 + i * 4 + 3 : Nat) : Int)⟩
def markAss (k0 n : Nat) : List As := (List.range n).map (markAs k0)
theorem markAss_len (k0 n : Nat) : (markAss k0 n).length = n := by simp [markAss]
theorem markAss_at {k0 n j : Nat} (h : j < n) : (markAss k0 n)[j]? = some (markAs k0 j) := by simp [markAss, List.getElem?_range h]
/-- The elements of block g ahead of j are marked. -/
def MarkedAs (w : World) (g k0 j n : Nat) : Prop := ∃ cs, RW 52 w g cs ∧ n * 4 ≤ cs.size ∧ ∀ (i q : Nat) (v : Value), i < j → (markAs k0 i).vs[q]? = some v → cs[i * 4 + q]? = some v

theorem setsAs_new {cs : Array Value} {b : Nat} {v0 v1 v2 v3 : Value} (hb : b + 3 < cs.size) : ∀ (q : Nat) (v : Value), [v0, v1, v2, v3][q]? = some v → ((((cs.setIfInBounds (b) v0).setIfInBounds (b + 1) v1).setIfInBounds (b + 2) v2).setIfInBounds (b + 3) v3)[b + q]? = some v := by
  intro q v h
  have e : ((((cs.setIfInBounds (b) v0).setIfInBounds (b + 1) v1).setIfInBounds (b + 2) v2).setIfInBounds (b + 3) v3) = putL cs b [v0, v1, v2, v3] := rfl
  rw [e]
  exact putL_new _ _ _ _ _ (by simp; omega) h
theorem setsAs_old {cs : Array Value} {b i : Nat} {v0 v1 v2 v3 : Value} (h : i < b) : ((((cs.setIfInBounds (b) v0).setIfInBounds (b + 1) v1).setIfInBounds (b + 2) v2).setIfInBounds (b + 3) v3)[i]? = cs[i]? := putL_old [v0, v1, v2, v3] cs b i h

set_option maxHeartbeats 4000000 in
set_option maxRecDepth 100000 in
theorem markAssignmentS_any (g n c k0 : Nat) (cs : Array Value) (W : World) (hs : RW 52 W g cs) (hcs : n * 4 ≤ cs.size) (h0 : 0 < k0) (hk : k0 + n * 4 ≤ 16777000) :
    Calls Try.prog 24 #[.slice (some ⟨g, 0, none⟩) n c, .int .i64 k0] W fun e w' => e = .returned (.int .i64 ((k0 + n * 4 : Nat) : Int)) ∧ W.grownBy w' (some g) ∧ MarkedAs w' g k0 n n := by
  have HG : Hid (g < W.heap.size) := hs.lt
  have HM : Hid (MarkedAs W g k0 0 n) := ⟨cs, hs, hcs, fun i q v hi => absurd hi (by omega)⟩
  clear hs hcs
  go_enter Try.func24, Try.ntmps24
  go_wp2
  go_loopw [1, 5] (fun q i wr => ∃ j : Nat, j ≤ n ∧ i = .int .i64 j ∧ q = .int .i64 ((k0 + j * 4 : Nat) : Int) ∧ Hid (W.grownBy wr (some g)) ∧ Hid (MarkedAs wr g k0 j n)) (fun _ i _ => n - (intOf i).toNat)
  case atStart => exact ⟨0, Nat.zero_le _, rfl, by simp, gb_refl _ _, HM⟩
  case round =>
    obtain ⟨j, hj, rfl, rfl, HW, HJ⟩ := hrel
    by_cases hlt : j < n
    · obtain ⟨cs, hs, hcs, hm⟩ := HJ.out
      have HSB := Lib.hid hs
      have HMM := Lib.hid hm
      have HCS := Lib.hid hcs
      have LZ := Lib.hid hs.lt
      have hcs2 : j * 4 + 3 < cs.size := by omega
      clear hs hm
      have b0 : (0 : Int) ≤ (j : Int) := by omega
      have b1 : (j : Int) < (n : Int) := by omega
      obtain ⟨t, ht⟩ : ∃ t, k0 + j * 4 = t := ⟨_, rfl⟩
      have HT := Lib.hid ht
      rw [ht]
      have ht0 : 0 < t := by omega
      have ht1 : t + 4 ≤ 16777000 := by omega
      clear ht
      have HMT0 : Hid (∀ w, Calls Try.prog 40 #[.int .i64 ((t : Int))] w fun e w' => e = .returned (.string (markT (t))) ∧ Below w.heap.size w w') := fun w => by
        have := markText_any (t) w (by omega) (by omega)
        rw [show ((t : Nat) : Int) = (t : Int) by omega] at this
        exact this
      have HMT1 : Hid (∀ w, Calls Try.prog 40 #[.int .i64 ((t : Int) + 1)] w fun e w' => e = .returned (.string (markT (t + 1))) ∧ Below w.heap.size w w') := fun w => by
        have := markText_any (t + 1) w (by omega) (by omega)
        rw [show ((t + 1 : Nat) : Int) = (t : Int) + 1 by omega] at this
        exact this
      have hm2 : ((t : Int) + 1 + 1).tmod 3 = ((t : Int) + 1 + 1) % 3 := IntWalk.rem_in _ _ (by omega)
      obtain ⟨c2, hc2⟩ : ∃ c, (((t : Int) + 1 + 1) % 3 == 0) = c := ⟨_, rfl⟩
      have HC2 : Hid (decide ((t + 2) % 3 = 0) = c2) := by
        show _ = _
        rw [← hc2, Bool.eq_iff_iff]
        simp only [decide_eq_true_eq, beq_iff_eq]
        omega
      go_wp2_with (first
        | (go_at_call 40; refine (HMT0.out _).mono ?_; rintro e w0 ⟨rfl, hb⟩; have HB0 := Lib.hid hb; have HS0 : Hid (RW 52 w0 g cs) := HSB.out.below hb (by first | exact LZ.out | (simp [World.setCell]; exact LZ.out)); have LZ0 := Lib.hid HS0.out.lt; have y0 := (HS0.out.cell (j * 4)).trans (Array.getElem?_eq_getElem (by (try simp only [Array.size_setIfInBounds]); omega)); have x0 := HS0.out.frozen (j * 4); clear hb HMT0)
        | (go_at_call 40; have tk := HS0; clear tk; refine (HMT1.out _).mono ?_; rintro e w1 ⟨rfl, hb⟩; have HB1 := Lib.hid hb; have HS1 : Hid (RW 52 w1 g (cs.setIfInBounds (j * 4) (.string (markT (t))))) := (HS0.out.set_ _ _).below hb (by first | exact LZ0.out | (simp [World.setCell]; exact LZ0.out)); have LZ1 := Lib.hid HS1.out.lt; have y1 := (HS1.out.cell (j * 4 + 1)).trans (Array.getElem?_eq_getElem (by (try simp only [Array.size_setIfInBounds]); omega)); have x1 := HS1.out.frozen (j * 4 + 1); have y2 := (HS1.out.cell (j * 4 + 2)).trans (Array.getElem?_eq_getElem (by (try simp only [Array.size_setIfInBounds]); omega)); have x2 := HS1.out.frozen (j * 4 + 2); have y3 := (HS1.out.cell (j * 4 + 3)).trans (Array.getElem?_eq_getElem (by (try simp only [Array.size_setIfInBounds]); omega)); have x3 := HS1.out.frozen (j * 4 + 3); clear hb HMT1 y0 x0))
      go_roundw
      case rel =>
        refine ⟨j + 1, by omega, by go_num, ?_, ?_, ?_⟩
        · have := HT.out
          congr 1
          omega
        · exact Lib.hid (gb_trans HW.out (gb_trans (gb_trans (gb_trans (gb_trans (gb_trans (gb_trans (gb_refl _ _) (gb_below HB0.out _)) (gb_set _ _ _ _)) (gb_below HB1.out _)) (gb_set _ _ _ _)) (gb_set _ _ _ _)) (gb_set _ _ _ _)))
        · refine ⟨_, (((HS1.out.set_ _ _).set_ _ _).set_ _ _), by simpa using HCS.out, fun i q v hi hv => ?_⟩
          by_cases e : i = j
          · subst e
            refine setsAs_new (by omega) q v ?_
            rw [← hv]
            show _ = (markAs k0 i).vs[q]?
            unfold markAs As.vs
            rw [HT.out]
            dsimp only
            rw [HC2.out]; (try push_cast); rfl
          · rw [setsAs_old (by have := (List.getElem?_eq_some_iff.1 hv).1; have := As.vs_len (markAs k0 i); omega)]
            exact HMM.out i q v (by omega) hv
      case measure => simp [intOf]; omega
    · have HN : Hid (j = n) := by show _ = _; omega
      go_wp2_with fail
      go_ret
      refine ⟨i64_ret (by rw [HN.out]), HW.out, ?_⟩
      have := HJ.out
      rw [HN.out] at this
      exact this

/-- An element where it lies, and what came behind. -/
def HlAs (wr : World) (b o : Nat) (x0 : ByteArray) (x1 : ByteArray) (x2 : Bool) (x3 : Int) (w : World) : Prop := (w.cell? ⟨b, o, none⟩ = some (.string x0) ∧ w.cell? ⟨b, o + 1, none⟩ = some (.string x1) ∧ w.cell? ⟨b, o + 2, none⟩ = some (.bool x2) ∧ w.cell? ⟨b, o + 3, none⟩ = some (.int .i64 x3)) ∧ Below wr.heap.size wr w ∧ b < wr.heap.size
theorem HlAs.grow {wr w w' : World} {b o : Nat} {x0 : ByteArray} {x1 : ByteArray} {x2 : Bool} {x3 : Int} (h : HlAs wr b o x0 x1 x2 x3 w) (hb : Below w.heap.size w w') : HlAs wr b o x0 x1 x2 x3 w' :=
  ⟨AsAt.below (x := ⟨x0, x1, x2, x3⟩) h.1 hb (Nat.lt_of_lt_of_le h.2.2 h.2.1.size), h.2.1.trans (hb.mono h.2.1.size), h.2.2⟩
abbrev FlatHlAs (wr : World) (b o : Nat) (x0 : ByteArray) (x1 : ByteArray) (x2 : Bool) (x3 : Int) (w : World) : Prop := (w.cell? ⟨b, o, none⟩ = some (.string x0) ∧ w.cell? ⟨b, o + 1, none⟩ = some (.string x1) ∧ w.cell? ⟨b, o + 2, none⟩ = some (.bool x2) ∧ w.cell? ⟨b, o + 3, none⟩ = some (.int .i64 x3)) ∧ HlAs wr b o x0 x1 x2 x3 w
theorem HlAs.flat {wr w : World} {b o : Nat} {x0 : ByteArray} {x1 : ByteArray} {x2 : Bool} {x3 : Int} (h : HlAs wr b o x0 x1 x2 x3 w) : FlatHlAs wr b o x0 x1 x2 x3 w := ⟨h.1, h⟩

set_option maxHeartbeats 4000000 in
set_option maxRecDepth 100000 in
theorem heldAssignmentS_any (A : Option Addr) (n c k0 : Nat) (W : World) (ha : AsI W W.heap.size A n (markAss k0 n)) (h0 : 0 < k0) (hk : k0 + n * 4 ≤ 16777000) :
    Calls Try.prog 25 #[.slice A n c, .int .i64 k0] W fun e w' => e = .returned (.int .i64 ((k0 + n * 4 : Nat) : Int)) ∧ Below W.heap.size W w' := by
  have HA := Lib.hid ha
  have hnm := ha.2.1
  unfold maxLen at hnm
  clear ha
  go_enter Try.func25, Try.ntmps25
  go_wp2
  go_loopw [1, 5] (fun q i wr => ∃ j : Nat, j ≤ n ∧ i = .int .i64 j ∧ q = .int .i64 ((k0 + j * 4 : Nat) : Int) ∧ Hid (Below W.heap.size W wr)) (fun _ i _ => n - (intOf i).toNat)
  case atStart => exact ⟨0, Nat.zero_le _, rfl, by simp, Below.refl _ _⟩
  case round =>
    obtain ⟨j, hj, rfl, rfl, HW⟩ := hrel
    by_cases hlt : j < n
    · obtain ⟨b, off, x, rfl, hg, hx, hat, _⟩ := (HA.out.below HW.out).at_ hlt
      rw [markAss_at hlt, Option.some.injEq] at hx
      subst hx
      unfold markAs AsAt at hat
      dsimp only at hat
      obtain ⟨t, ht⟩ : ∃ t, k0 + j * 4 = t := ⟨_, rfl⟩
      have HT := Lib.hid ht
      rw [ht] at hat ⊢
      have ht0 : 0 < t := by omega
      have ht1 : t + 4 ≤ 16777000 := by omega
      obtain ⟨o, ho⟩ : ∃ o, off + j * 4 = o := ⟨_, rfl⟩
      rw [ho] at hat
      have hg2 : b < wr.heap.size := Nat.lt_of_lt_of_le hg HW.out.size
      have HMT0 : Hid (∀ w, Calls Try.prog 40 #[.int .i64 ((t : Int))] w fun e w' => e = .returned (.string (markT (t))) ∧ Below w.heap.size w w') := fun w => by
        have := markText_any (t) w (by omega) (by omega)
        rw [show ((t : Nat) : Int) = (t : Int) by omega] at this
        exact this
      have HMT1 : Hid (∀ w, Calls Try.prog 40 #[.int .i64 ((t : Int) + 1)] w fun e w' => e = .returned (.string (markT (t + 1))) ∧ Below w.heap.size w w') := fun w => by
        have := markText_any (t + 1) w (by omega) (by omega)
        rw [show ((t + 1 : Nat) : Int) = (t : Int) + 1 by omega] at this
        exact this
      have hm2 : ((t : Int) + 1 + 1).tmod 3 = ((t : Int) + 1 + 1) % 3 := IntWalk.rem_in _ _ (by omega)
      obtain ⟨c2, hc2⟩ : ∃ c, (((t : Int) + 1 + 1) % 3 == 0) = c := ⟨_, rfl⟩
      have HC2 : Hid (decide ((t + 2) % 3 = 0) = c2) := by
        show _ = _
        rw [← hc2, Bool.eq_iff_iff]
        simp only [decide_eq_true_eq, beq_iff_eq]
        omega
      generalize markT (t) = x0 at hat HMT0
      generalize markT (t + 1) = x1 at hat HMT1
      rw [HC2.out] at hat
      have HL : Hid (HlAs wr b o x0 x1 c2 ((t : Int) + 1 + 1 + 1) wr) := by
        show HlAs wr b o x0 x1 c2 ((t : Int) + 1 + 1 + 1) wr
        unfold HlAs
        push_cast at hat
        exact ⟨hat, Below.refl _ _, hg2⟩
      obtain ⟨p0, p1, p2, p3⟩ := HL.out.1
      clear hat hg hg2
      clear ht
      have b0 : (0 : Int) ≤ (j : Int) := by omega
      have b1 : (j : Int) < (n : Int) := by omega
      go_wp2_with fail
      have HD0 := Lib.hid (HL.out.grow (Below.refl _ _).drew)
      go_region_held3 (fun w' => FlatHlAs wr b o x0 x1 c2 ((t : Int) + 1 + 1 + 1) w')
        (first | exact HD0.out.flat | exact HE0.out.flat | go_keep)
        ((go_at_call 40; have tk := HD0; clear tk; refine (HMT0.out _).mono ?_; rintro e w0 ⟨rfl, hb⟩; have HE0 := Lib.hid (HD0.out.grow hb); clear hb))
      go_split_ands
      go_wp2_with fail
      have HD1 := Lib.hid (HE0.out.grow (Below.refl _ _).drew)
      go_region_held3 (fun w' => FlatHlAs wr b o x0 x1 c2 ((t : Int) + 1 + 1 + 1) w')
        (first | exact HD1.out.flat | exact HE1.out.flat | go_keep)
        ((go_at_call 40; have tk := HD1; clear tk; refine (HMT1.out _).mono ?_; rintro e w1 ⟨rfl, hb⟩; have HE1 := Lib.hid (HD1.out.grow hb); clear hb))
      go_split_ands
      go_wp2_with fail
      go_roundw
      case rel =>
        refine ⟨j + 1, by omega, by go_num, ?_, Lib.hid (HW.out.trans (HE1.out.2.1.mono HW.out.size))⟩
        have := HT.out
        congr 1
        omega
      case measure => simp [intOf]; omega
    · have HN : Hid (j = n) := by show _ = _; omega
      go_wp2_with fail
      go_ret
      exact ⟨i64_ret (by rw [HN.out]), HW.out⟩

/-- What toAssignmentS answers: a row of its own. -/
def ToRowAs (xs : List As) (n : Nat) (W : World) (e : Ending) (w' : World) : Prop :=
  e = .returned (.slice (some ⟨W.heap.size, 0, none⟩) n n) ∧ Hid (FilledAs w' W.heap.size n n xs ∧ W.heap.size < w'.heap.size ∧ Below W.heap.size W w')
set_option maxHeartbeats 2000000 in
set_option maxRecDepth 100000 in
theorem toAssignmentS_row (A : Option Addr) (n c : Nat) (xs : List As) (W : World) (hr : AsI W W.heap.size A n xs) (hn : n ≤ 1048576) :
    Calls Try.prog 21 #[.slice A n c] W (ToRowAs xs n W) := by
  obtain ⟨i0, hi, hz0, hz1, hz2⟩ := info_parts infoAs
  have HR := Lib.hid hr
  have h1 : (n : Int) ≤ 1048576 := by omega
  clear hr
  go_enter Try.func21, Try.ntmps21
  go_wp2_with (at_make; refine wpList_make_full _ rfl _ _ 38 rfl W.heap.size 52 i0 (.agg #[.string ⟨#[]⟩, .string ⟨#[]⟩, .bool false, .int .i64 0]) 4 Try.underlying38 hi hz0 hz1 .i64 .i64 n n n rfl rfl rfl rfl (by rw [hz2]; omega) (by unfold maxLen; omega) (Nat.le_refl _) ?_)
  intro w1 hown hgrow
  have HB1 : Hid (Below W.heap.size W w1) := below_grown_none hgrow
  obtain ⟨cs, hcs, hcn⟩ := ownAs hown
  have HG : Hid (W.heap.size < w1.heap.size) := hcs.lt
  have HM : Hid (FilledAs w1 W.heap.size 0 n xs) := ⟨cs, hcs, hcn, fun i q x v hi => absurd hi (by omega)⟩
  clear hown hgrow hcs hcn hi hz0 hz1 hz2
  go_wp2_with fail
  go_loopw [4] (fun i wr => ∃ j : Nat, j ≤ n ∧ i = .int .i64 j ∧ Hid (Below W.heap.size W wr) ∧ Hid (W.heap.size < wr.heap.size) ∧ Hid (FilledAs wr W.heap.size j n xs)) (fun i _ => n - (intOf i).toNat)
  case atStart => exact ⟨0, Nat.zero_le _, rfl, HB1, HG, HM⟩
  case round =>
    obtain ⟨j, hj, rfl, HW, HZ, HJ⟩ := hrel
    by_cases hlt : j < n
    · obtain ⟨b, off, x, rfl, hg, hx, ⟨q0, q1, q2, q3⟩, hxs⟩ := (HR.out.below HW.out).at_ hlt
      obtain ⟨x0, x1, x2, x3⟩ := x
      dsimp only at q0 q1 q2 q3 hxs
      have HX := Lib.hid hx
      obtain ⟨cs, hs, hcs, hm⟩ := HJ.out
      have HSB := Lib.hid hs
      have HMM := Lib.hid hm
      have HL0 : Hid (j * 4 < cs.size) := by show _ < _; omega
      have HL1 : Hid (j * 4 + 1 < cs.size) := by show _ < _; omega
      have HL2 : Hid (j * 4 + 2 < cs.size) := by show _ < _; omega
      have HL3 : Hid (j * 4 + 3 < cs.size) := by show _ < _; omega
      have HCS := Lib.hid hcs
      clear hs hm hx hxs hg hcs
      have b0 : (0 : Int) ≤ (j : Int) := by omega
      have b1 : (j : Int) < (n : Int) := by omega
      go_wp2_with (go_at_call 38; refine (toAssignment_any ⟨x0, x1, x2, x3⟩ _).mono ?_; rintro e w1 ⟨rfl, hb⟩; have HB1 := Lib.hid hb; have HS1 : Hid (RW 52 w1 W.heap.size cs) := HSB.out.below hb HZ.out; have p0 := (HS1.out.cell (j * 4)).trans (Array.getElem?_eq_getElem HL0.out); have p1 := (HS1.out.cell (j * 4 + 1)).trans (Array.getElem?_eq_getElem HL1.out); have p2 := (HS1.out.cell (j * 4 + 2)).trans (Array.getElem?_eq_getElem HL2.out); have p3 := (HS1.out.cell (j * 4 + 3)).trans (Array.getElem?_eq_getElem HL3.out); have z0 := HS1.out.frozen (j * 4); have z1 := HS1.out.frozen (j * 4 + 1); have z2 := HS1.out.frozen (j * 4 + 2); have z3 := HS1.out.frozen (j * 4 + 3); clear hb q0 q1 q2 q3)
      go_roundw
      case rel =>
        refine ⟨j + 1, by omega, by go_num, ?_, ?_, ?_⟩
        · exact ((((HW.out.trans (HB1.out.mono (Nat.le_of_lt HZ.out))).setCell (Nat.le_refl _) _).setCell (Nat.le_refl _) _).setCell (Nat.le_refl _) _).setCell (Nat.le_refl _) _
        · have h1 := HB1.out.size
          have h2 := HZ.out
          show _ < _
          simp [World.setCell]
          omega
        · refine ⟨_, ((((HS1.out).set_ _ _).set_ _ _).set_ _ _).set_ _ _, by simpa using HCS.out, fun i q x v hi hxi hv => ?_⟩
          by_cases e : i = j
          · subst e
            rw [HX.out, Option.some.injEq] at hxi
            subst hxi
            exact putL_new _ _ _ q v (by have := HL3.out; simp [As.vs]; omega) hv
          · have hq : q < 4 := (List.getElem?_eq_some_iff.1 hv).1
            refine (putL_old (As.vs ⟨x0, x1, x2, x3⟩) cs (j * 4) _ (by omega)).trans (HMM.out i q x v (by omega) hxi hv)
      case measure => simp [intOf]; omega
    · have HN : Hid (j = n) := by show _ = _; omega
      go_wp2_with fail
      go_ret
      have h9 := HJ.out
      rw [HN.out] at h9
      exact ⟨rfl, Lib.hid ⟨h9, HZ.out, HW.out⟩⟩

theorem FilledAs.toI {w : World} {g n B : Nat} {xs : List As} (h : FilledAs w g n n xs) (hB : g < B) (hl : xs.length = n) (hm : n ≤ maxLen) (hs : ∀ (j : Nat) (x : As), xs[j]? = some x → x.name_.size ≤ maxLen ∧ x.text_.size ≤ maxLen) : AsI w B (some ⟨g, 0, none⟩) n xs := ⟨hl, hm, fun hn => by
  obtain ⟨cs, h1, h2, h3⟩ := h
  refine ⟨g, 0, rfl, hB, fun j x hx => ⟨?_, hs j x hx⟩⟩
  have hj : j < n := by have := (List.getElem?_eq_some_iff.1 hx).1; omega
  rw [Nat.zero_add]
  exact ⟨(h1.cell _).trans (h3 j 0 x _ hj hx rfl), (h1.cell _).trans (h3 j 1 x _ hj hx rfl), (h1.cell _).trans (h3 j 2 x _ hj hx rfl), (h1.cell _).trans (h3 j 3 x _ hj hx rfl)⟩⟩
theorem AsI.sizes {w : World} {B n : Nat} {A : Option Addr} {xs : List As} (h : AsI w B A n xs) (j : Nat) (x : As) (hx : xs[j]? = some x) : x.name_.size ≤ maxLen ∧ x.text_.size ≤ maxLen := by
  have hj : j < n := by have := (List.getElem?_eq_some_iff.1 hx).1; have := h.1; omega
  obtain ⟨_, _, _, _, hc⟩ := h.2.2 (by omega)
  exact (hc j x hx).2
theorem FilledAs.below {w w' : World} {g n B : Nat} {xs : List As} (h : FilledAs w g n n xs) (hb : Below B w w') (hg : g < B) : FilledAs w' g n n xs := by
  obtain ⟨cs, h1, h2, h3⟩ := h
  exact ⟨cs, h1.below hb hg, h2, h3⟩
theorem RowAs.grown {w w' : World} {B C : Nat} {A : Option Addr} {xs : List As} {r : Option Nat} (h : RowAs w B C A xs) (hg : w.grownBy w' r) (hne : ∀ g, B ≤ g → g < C → some g ≠ r) : RowAs w' B C A xs := fun hn => by
  obtain ⟨g, cs, e, h1, h2, h3, h4, h5⟩ := h hn
  exact ⟨g, cs, e, h1, h2, (hg.block g h3.lt (hne g h1 h2)).trans h3, h4, h5⟩
theorem markedI {w : World} {g k0 n : Nat} (h : MarkedAs w g k0 n n) (hk : k0 + n * 4 ≤ 16777000) : AsI w w.heap.size (some ⟨g, 0, none⟩) n (markAss k0 n) := ⟨markAss_len _ _, by unfold maxLen; omega, fun hn => by
  obtain ⟨cs, h1, h2, h3⟩ := h
  refine ⟨g, 0, rfl, h1.lt, fun j x hx => ?_⟩
  have hj : j < n := by have := (List.getElem?_eq_some_iff.1 hx).1; rwa [markAss_len] at this
  rw [markAss_at hj, Option.some.injEq] at hx
  subst hx
  rw [Nat.zero_add]
  exact ⟨⟨(h1.cell _).trans (h3 j 0 _ hj rfl), (h1.cell _).trans (h3 j 1 _ hj rfl), (h1.cell _).trans (h3 j 2 _ hj rfl), (h1.cell _).trans (h3 j 3 _ hj rfl)⟩, mark_size (by omega), mark_size (by omega)⟩⟩
/-- A copy of an argument is marked, from 1 on. -/
theorem mark_filledAs {w : World} {g n : Nat} {xs : List As} (c : Nat) (h : FilledAs w g n n xs) (hn : n ≤ 1048576) :
    Calls Try.prog 24 #[.slice (some ⟨g, 0, none⟩) n c, .int .i64 1] w fun e w' => e = .returned (.int .i64 ((1 + n * 4 : Nat) : Int)) ∧ w.grownBy w' (some g) := by
  obtain ⟨cs, h1, h2, _⟩ := h
  exact (markAssignmentS_any g n c 1 cs w h1 h2 (by decide) (by omega)).mono fun e w' ⟨e1, e2, _⟩ => ⟨e1, e2⟩
theorem held_oneAs {w : World} {A : Option Addr} {n : Nat} (c : Nat) (h : AsI w w.heap.size A n (markAss 1 n)) (hn : n ≤ 1048576) :
    Calls Try.prog 25 #[.slice A n c, .int .i64 1] w fun e w' => e = .returned (.int .i64 ((1 + n * 4 : Nat) : Int)) ∧ Below w.heap.size w w' :=
  heldAssignmentS_any A n c 1 w h (by decide) (by omega)
set_option maxRecDepth 100000 in
/-- A row handed back is marked. -/
theorem mark_rowAs {w : World} {B C : Nat} {xs : List As} {A : Option Addr} (c : Nat) (h : RowAs w B C A xs) (hC : C ≤ w.heap.size) (hn : xs.length ≤ 1048576) :
    Calls Try.prog 24 #[.slice A xs.length c, .int .i64 1] w fun e w' => e = .returned (.int .i64 ((1 + xs.length * 4 : Nat) : Int)) ∧ AsI w' w'.heap.size A xs.length (markAss 1 xs.length) ∧ ∃ r, w.grownBy w' r ∧ ∀ g, r = some g → B ≤ g ∧ g < C := by
  rcases Nat.eq_zero_or_pos xs.length with h0 | h0
  · rw [h0]
    go_enter Try.func24, Try.ntmps24
    go_wp2
    go_loopw [1, 5] (fun q i wr => i = .int .i64 0 ∧ q = .int .i64 1 ∧ wr = w) (fun _ _ _ => 0)
    case atStart => exact ⟨rfl, rfl, rfl⟩
    case round =>
      obtain ⟨rfl, rfl, rfl⟩ := hrel
      go_wp2_with fail
      go_ret
      exact ⟨rfl, AsI.nil _ _ _, none, gb_refl _ _, fun g e => (by cases e)⟩
  · obtain ⟨g, cs, rfl, h1, h2, h3, h4, h5⟩ := h h0
    exact (markAssignmentS_any g xs.length c 1 cs w h3 h4 (by omega) (by omega)).mono fun e w' ⟨e1, e2, e3⟩ => ⟨e1, markedI e3 (by omega), some g, e2, fun g' e => by cases e; exact ⟨h1, h2⟩⟩

end Go.Proofs.Ytdlhoakcpdaboaa
