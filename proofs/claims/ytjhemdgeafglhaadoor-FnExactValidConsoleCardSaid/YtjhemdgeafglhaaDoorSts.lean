/- Slices of strings: what came in or lies below B; szStringS, toStringS of the laws. No condition. -/
import Derived.Test.YtjhemdgeafglhaaDoorRw
namespace Go.Proofs.YtjhemdgeafglhaaDoor
open Go Go.RowKit

/-- What holds of a world by its blocks from a to before b alone. -/
def Det (a b : Nat) (w : World) (P : World → Prop) : Prop := ∀ w', (∀ g, a ≤ g → g < b → w'.heap[g]? = w.heap[g]?) → P w'
theorem Det.self {a b : Nat} {w : World} {P : World → Prop} (h : Det a b w P) : P w := h w fun _ _ _ => rfl
theorem Det.wide {a b a' b' : Nat} {w : World} {P : World → Prop} (h : Det a b w P) (ha : a' ≤ a) (hb : b ≤ b') : Det a' b' w P := fun w' k => h w' fun g h1 h2 => k g (by omega) (by omega)
theorem Det.keep {a b : Nat} {w w' : World} {P : World → Prop} (h : Det a b w P) (k : ∀ g, a ≤ g → g < b → w'.heap[g]? = w.heap[g]?) : Det a b w' P := fun w'' k' => h w'' fun g h1 h2 => (k' g h1 h2).trans (k g h1 h2)
theorem Det.below {a b B : Nat} {w w' : World} {P : World → Prop} (h : Det a b w P) (hb : Below B w w') (hB : b ≤ B) : Det a b w' P := h.keep fun g _ h2 => hb.block g (by omega)
theorem Det.set {a b : Nat} {w : World} {P : World → Prop} (h : Det a b w P) {p : Addr} (hp : p.block < a) (u : Value) : Det a b (w.setCell p u) P := h.keep fun g h1 _ => Below.heap_setCell w p u g (by omega)
theorem Det.set' {a b : Nat} {w : World} {P : World → Prop} (h : Det a b w P) {p : Addr} (hp : b ≤ p.block) (u : Value) : Det a b (w.setCell p u) P := h.keep fun g _ h2 => Below.heap_setCell w p u g (by omega)
theorem Det.imp {a b : Nat} {w : World} {P Q : World → Prop} (h : Det a b w P) (k : ∀ w, P w → Q w) : Det a b w Q := fun w' k' => k w' (h w' k')
theorem cell_same {w w' : World} {b o : Nat} (h : w'.heap[b]? = w.heap[b]?) : w'.cell? ⟨b, o, none⟩ = w.cell? ⟨b, o, none⟩ := World.cell?_of_block (w := w) (a := ⟨b, o, none⟩) h

/-- A slice of strings whose cells lie below B. -/
def StI (w : World) (B : Nat) (A : Option Addr) (n : Nat) (xs : List ByteArray) : Prop :=
  xs.length = n ∧ n ≤ maxLen ∧ (0 < n → ∃ b off, A = some ⟨b, off, none⟩ ∧ b < B ∧ ∀ (j : Nat) (x : ByteArray), xs[j]? = some x → w.cell? ⟨b, off + j, none⟩ = some (.string x) ∧ x.size ≤ maxLen)
abbrev St := ByteArray
theorem StI.below {w w' : World} {B n : Nat} {A : Option Addr} {xs : List St} (h : StI w B A n xs) (hb : Below B w w') : StI w' B A n xs :=
  ⟨h.1, h.2.1, fun hn => by
    obtain ⟨b, off, e, hg, hc⟩ := h.2.2 hn
    exact ⟨b, off, e, hg, fun j x hx => ⟨(hb.cell (p := ⟨b, off + j, none⟩) hg).trans (hc j x hx).1, (hc j x hx).2⟩⟩⟩
theorem StI.more {w : World} {B B' n : Nat} {A : Option Addr} {xs : List St} (h : StI w B A n xs) (hB : B ≤ B') : StI w B' A n xs :=
  ⟨h.1, h.2.1, fun hn => by
    obtain ⟨b, off, e, hg, hc⟩ := h.2.2 hn
    exact ⟨b, off, e, by omega, hc⟩⟩
theorem StI.nil (w : World) (B : Nat) (A : Option Addr) : StI w B A 0 [] := ⟨rfl, Nat.zero_le _, fun h => absurd h (by omega)⟩
theorem StI.at_ {w : World} {B n k : Nat} {A : Option Addr} {xs : List St} (h : StI w B A n xs) (hk : k < n) : ∃ b off x, A = some ⟨b, off, none⟩ ∧ b < B ∧ xs[k]? = some x ∧ w.cell? ⟨b, off + k, none⟩ = some (.string x) ∧ x.size ≤ maxLen := by
  obtain ⟨b, off, e, hg, hc⟩ := h.2.2 (by omega)
  have hl : k < xs.length := by rw [h.1]; exact hk
  exact ⟨b, off, xs[k], e, hg, List.getElem?_eq_getElem hl, hc k _ (List.getElem?_eq_getElem hl)⟩
theorem StI.alloc {W : World} {A : Option Addr} {n : Nat} {xs : List St} (h : StI W W.heap.size A n xs) (o : Obj) : StI (W.alloc o) (W.alloc o).heap.size A n xs := (h.below (below_alloc W o)).more (by simp)
theorem StI.go {W w : World} {A : Option Addr} {n : Nat} {xs : List St} (h : StI W W.heap.size A n xs) (hb : Below W.heap.size W w) : StI w w.heap.size A n xs := (h.below hb).more hb.size
theorem StI.other {w : World} {B n b off : Nat} {xs : List St} (h : StI w B (some ⟨b, off, none⟩) n xs) {p : Addr} (hp : b ≠ p.block) (u : Value) : StI (w.setCell p u) B (some ⟨b, off, none⟩) n xs :=
  ⟨h.1, h.2.1, fun hn => by
    obtain ⟨b', off', e, hg, hc⟩ := h.2.2 hn
    simp only [Option.some.injEq, Addr.mk.injEq, and_true] at e
    obtain ⟨rfl, rfl⟩ := e
    exact ⟨b, off, rfl, hg, fun j x hx => ⟨(World.cell?_setCell_other w p ⟨b, off + j, none⟩ u (fun e => hp (by rw [e]))).trans (hc j x hx).1, (hc j x hx).2⟩⟩⟩
theorem StI.others {B n b off : Nat} {xs : List St} {g : Nat} (hp : b ≠ g) : ∀ {vs : List Value} {w : World} {o : Nat}, StI w B (some ⟨b, off, none⟩) n xs → StI (w.setCells g o vs) B (some ⟨b, off, none⟩) n xs
  | [], _, _, h => h
  | v :: r, w, o, h => StI.others hp (vs := r) (h.other (p := ⟨g, o, none⟩) hp v)
theorem StI.det {w : World} {B n b off : Nat} {xs : List St} (h : StI w B (some ⟨b, off, none⟩) n xs) : Det b B w fun w => StI w B (some ⟨b, off, none⟩) n xs := fun w' k =>
  ⟨h.1, h.2.1, fun hn => by
    obtain ⟨b', off', e, hg, hc⟩ := h.2.2 hn
    simp only [Option.some.injEq, Addr.mk.injEq, and_true] at e
    obtain ⟨rfl, rfl⟩ := e
    exact ⟨b, off, rfl, hg, fun j x hx => ⟨(cell_same (k b (Nat.le_refl _) hg)).trans (hc j x hx).1, (hc j x hx).2⟩⟩⟩

section
variable {H : Type} {enc : TypeId × Value → H} {W : World} {base : Nat} {held : Bool}
theorem open_StF {A : Option Addr} {n c fuel : Nat} {x : DataW H × List MemPlace} (hf : DataW.trod enc Tryd.prog W base (fun _ => true) held fuel 32 [.slice A n c] = some x) :
    ∃ xs, StI W W.heap.size A n xs := by
  rcases Go.Deep.open_slice Tryd.underlying32 hf with ⟨h0, _⟩ | ⟨a, len, cap, m, k, D, Pl, hcs, hb, hl, hm, hmm, hx, hi⟩
  · simp at h0
    obtain ⟨rfl, rfl, rfl⟩ := h0
    exact ⟨[], rfl, Nat.zero_le _, fun h => absurd h (by omega)⟩
  · simp only [List.cons.injEq, Value.slice.injEq, and_true] at hcs
    obtain ⟨rfl, rfl, rfl⟩ := hcs
    simp only [if_true] at hmm
    have hC : Tryd.prog.cellsOf 9 = 1 := by kernel_rfl
    have key : ∀ i, i < n → ∃ o : ByteArray, W.cell? (a.add i) = some (.string o) ∧ o.size ≤ maxLen := by
      intro i hin
      obtain ⟨cs', hc, ht'⟩ := hi i (by omega)
      rw [hC] at hc
      obtain ⟨_, hcl, hat⟩ := World.cells?_some hc
      match cs', hcl with
      | [c0], _ =>
        obtain ⟨z, e, _, hz⟩ := DataW.trod_string Tryd.underlying9 ht'
        simp only [List.cons.injEq, and_true] at e
        subst e
        refine ⟨z, ?_, hz⟩
        have := hat 0 (by decide)
        simpa [Addr.add, Nat.mul_one] using this
    have hnm : n ≤ maxLen := Nat.le_trans hl hm
    by_cases hn : 0 < n
    · obtain ⟨ab, ao, spot⟩ := a
      obtain ⟨o0, h0, _⟩ := key 0 hn
      have hspot : spot = none := by simpa [Addr.add] using World.cell?_spot h0
      subst hspot
      rw [Addr.add_lit] at h0
      obtain ⟨os, hl', hx'⟩ := list_of (α := ByteArray) (P := fun j o => W.cell? ⟨ab, ao + j, none⟩ = some (.string o) ∧ o.size ≤ maxLen) (n := n) fun i hin => by
        obtain ⟨o, hc, ho⟩ := key i hin
        rw [Addr.add_lit] at hc
        exact ⟨o, hc, ho⟩
      exact ⟨os, hl', hnm, fun _ => ⟨ab, ao, rfl, World.block_lt_of_cell? W ⟨ab, _, none⟩ h0, hx'⟩⟩
    · exact ⟨[], by simp; omega, hnm, fun h => absurd h hn⟩
end
theorem open_St {H : Type} {enc : TypeId × Value → H} {W : World} {A : Option Addr} {n c : Nat} {d : DataW H} {p : List MemPlace} (h : DataW.Trod enc Tryd.prog W 0 (fun _ => true) true 32 (.slice A n c) d p) :
    ∃ xs, StI W W.heap.size A n xs := by
  obtain ⟨fuel, hf⟩ := h
  exact open_StF (by simpa [Value.cells] using hf)

/-- The bytes of the first k. -/
def sumSt (xs : List St) : Nat → Nat
  | 0 => 0
  | k + 1 => sumSt xs k + ((xs[k]?.map fun (x : ByteArray) => x.size).getD 0)
theorem sumSt_next {xs : List St} {k : Nat} {x : St} (h : xs[k]? = some x) : sumSt xs (k + 1) = sumSt xs k + ByteArray.size x := by
  rw [sumSt, h]
  rfl
theorem sumSt_mono {xs : List St} {j : Nat} : ∀ {k : Nat}, j ≤ k → sumSt xs j ≤ sumSt xs k
  | 0, h => by obtain rfl : j = 0 := by omega
               exact Nat.le_refl _
  | k + 1, h => by
    by_cases e : j = k + 1
    · rw [e]; exact Nat.le_refl _
    · have := sumSt_mono (xs := xs) (show j ≤ k by omega)
      rw [sumSt]
      omega
/-- What szStringS takes of the bound. -/
def szSt (xs : List St) : Nat := xs.length + sumSt xs xs.length

set_option maxHeartbeats 1000000 in
set_option maxRecDepth 100000 in
theorem szStringS_any (A : Option Addr) (n c : Nat) (xs : List St) (L : Int) (W : World) (hr : StI W W.heap.size A n xs) (h0 : 0 ≤ L) (hL : L ≤ 1048576) :
    Calls Tryd.prog 35 #[.slice A n c, .int .i64 L] W (SzL (szSt xs) L W) := by
  have HR := Lib.hid hr
  have hn := hr.2.1
  have hxn := hr.1
  clear hr
  obtain ⟨s, hs⟩ : ∃ s, szSt xs = s := ⟨_, rfl⟩
  have HS : Hid (s = n + sumSt xs n) := by show _ = _; rw [← hs, szSt, hxn]
  rw [hs]
  clear hs hxn
  unfold maxLen at hn
  by_cases hbig : L < (n : Int)
  · have HB : Hid (L < (s : Int)) := by show _ < _; have := HS.out; omega
    have h2 : (n : Int) ≤ 9223372036854775807 := by omega
    have d0 : decide (L - n < 0) = true := by simp; omega
    go_enter Tryd.func35, Tryd.ntmps35
    go_wp2_with fail
    go_ret
    exact ⟨.inr ⟨HB.out, rfl⟩, Below.refl _ _⟩
  · have h1 : (n : Int) ≤ L := by omega
    have hn' : n ≤ 1048576 := by omega
    have d0 : decide (L - n < 0) = false := by simp; omega
    clear hbig
    go_enter Tryd.func35, Tryd.ntmps35
    go_wp2_with fail
    go_loopw [1, 5] (fun q i wr => ∃ k : Nat, ∃ z : Int, k ≤ n ∧ i = .int .i64 k ∧ q = .int .i64 z ∧ 0 ≤ z ∧ z ≤ 1048576 ∧ Hid (z = L - (n : Int) - (sumSt xs k : Int)) ∧ Hid (Below W.heap.size W wr)) (fun _ i _ => n - (intOf i).toNat)
    case atStart => exact ⟨0, _, Nat.zero_le _, rfl, rfl, by omega, by omega, by show _ = _; simp [sumSt], Below.refl _ _⟩
    case round =>
      obtain ⟨k, z, hk, rfl, rfl, hz0, hz1, HZ, HW⟩ := hrel
      by_cases hlt : k < n
      · obtain ⟨b, off, x, rfl, hg, hx, q0, hm0⟩ := (HR.out.below HW.out).at_ hlt
        have HX := Lib.hid hx
        have b0 : (0 : Int) ≤ (k : Int) := by omega
        have b1 : (k : Int) < (n : Int) := by omega
        have HZ0 : Hid (0 ≤ z) := hz0
        have HZ1 : Hid (z ≤ 1048576) := hz1
        unfold maxLen at hm0
        clear hx hg
        by_cases hf : (x.size : Int) ≤ z
        · have HF := Lib.hid hf
          have HN : Hid (sumSt xs (k + 1) = sumSt xs k + x.size) := sumSt_next HX.out
          have dz : decide (z - (x.size : Int) < 0) = false := by simp; omega
          clear hf
          go_wp2_with fail
          go_roundw
          case rel => exact ⟨k + 1, _, by omega, by go_num, rfl, by have := HF.out; omega, by omega, by show _ = _; rw [HN.out, HZ.out]; omega, HW⟩
          case measure => simp [intOf]; omega
        · have HF := Lib.hid hf
          have HBIG : Hid (L < (s : Int)) := by
            show _ < _
            have h1 := sumSt_mono (xs := xs) (j := k + 1) (k := n) (by omega)
            rw [sumSt_next HX.out] at h1
            have h2 := HZ.out
            have h3 := HS.out
            omega
          have dz : decide (z - (x.size : Int) < 0) = true := by simp; omega
          clear hf
          go_wp2_with fail
          go_ret
          exact ⟨.inr ⟨HBIG.out, rfl⟩, HW.out⟩
      · have hkn : k = n := by omega
        have HE : Hid ((s : Int) ≤ L ∧ z = L - (s : Int)) := by
          have h := HZ.out
          have h3 := HS.out
          rw [hkn] at h
          exact ⟨by omega, by omega⟩
        go_wp2_with fail
        go_ret
        exact ⟨.inl ⟨HE.out.1, by rw [HE.out.2]; rfl⟩, HW.out⟩

/-- The elements of block g ahead of j are filled. -/
def FilledSt (w : World) (g j n : Nat) (xs : List St) : Prop := ∃ cs, RW 9 w g cs ∧ n ≤ cs.size ∧ ∀ (i : Nat) (x : St), i < j → xs[i]? = some x → cs[i]? = some (.string x)
theorem infoSt : (Tryd.prog.info? 9).map (fun i => (i.zero, i.size, i.bytes)) = some (some (Value.string ⟨#[]⟩), 1, 16) := by kernel_rfl
theorem ownSt {w : World} {B g n : Nat} {xs : List Value} (h : w.ownsRow B 9 1 (.slice (some ⟨g, 0, none⟩) n n) n xs) : ∃ cs, RW 9 w g cs ∧ n ≤ cs.size := by
  rcases h.2 with ⟨h', _⟩ | ⟨g', cap', cur, h', _, hg, _, _, hsz, _⟩
  · simp at h'
  · simp only [Value.slice.injEq, Option.some.injEq, Addr.mk.injEq, and_true, true_and] at h'
    obtain ⟨rfl, rfl⟩ := h'
    exact ⟨cur, hg, by omega⟩
/-- What toStringS answers: a slice at the head of the first new block. -/
def ToSt (xs : List St) (n : Nat) (W : World) (e : Ending) (w' : World) : Prop :=
  e = .returned (.slice (some ⟨W.heap.size, 0, none⟩) n n) ∧ Hid (StI w' w'.heap.size (some ⟨W.heap.size, 0, none⟩) n xs ∧ Below W.heap.size W w')

set_option maxHeartbeats 2000000 in
set_option maxRecDepth 100000 in
theorem toStringS_any (A : Option Addr) (n c : Nat) (xs : List St) (W : World) (hr : StI W W.heap.size A n xs) (hn : n ≤ 1048576) :
    Calls Tryd.prog 38 #[.slice A n c] W (ToSt xs n W) := by
  obtain ⟨i0, hi, hz0, hz1, hz2⟩ := info_parts infoSt
  have HR := Lib.hid hr
  have h1 : (n : Int) ≤ 1048576 := by omega
  clear hr
  go_enter Tryd.func38, Tryd.ntmps38
  go_wp2_with (at_make; refine wpList_make_full _ rfl _ _ 32 rfl W.heap.size 9 i0 (.string ⟨#[]⟩) 1 Tryd.underlying32 hi hz0 hz1 .i64 .i64 n n n rfl rfl rfl rfl (by rw [hz2]; omega) (by unfold maxLen; omega) (Nat.le_refl _) ?_)
  intro w1 hown hgrow
  have HB1 : Hid (Below W.heap.size W w1) := below_grown_none hgrow
  obtain ⟨cs, hcs, hcn⟩ := ownSt hown
  have HG : Hid (W.heap.size < w1.heap.size) := hcs.lt
  have HM : Hid (FilledSt w1 W.heap.size 0 n xs) := ⟨cs, hcs, hcn, fun i x hi => absurd hi (by omega)⟩
  clear hown hgrow hcs hcn hi hz0 hz1 hz2
  go_wp2_with fail
  go_loopw [4] (fun i wr => ∃ j : Nat, j ≤ n ∧ i = .int .i64 j ∧ Hid (Below W.heap.size W wr) ∧ Hid (W.heap.size < wr.heap.size) ∧ Hid (FilledSt wr W.heap.size j n xs)) (fun i _ => n - (intOf i).toNat)
  case atStart => exact ⟨0, Nat.zero_le _, rfl, HB1, HG, HM⟩
  case round =>
    obtain ⟨j, hj, rfl, HW, HZ, HJ⟩ := hrel
    by_cases hlt : j < n
    · obtain ⟨b, off, x, rfl, hg, hx, q0, hxs⟩ := (HR.out.below HW.out).at_ hlt
      have HX := Lib.hid hx
      obtain ⟨cs, hs, hcs, hm⟩ := HJ.out
      have HSB := Lib.hid hs
      have HMM := Lib.hid hm
      have HL0 : Hid (j < cs.size) := by show _ < _; omega
      have HCS := Lib.hid hcs
      have p0 := (hs.cell j).trans (Array.getElem?_eq_getElem HL0.out)
      have z0 := hs.frozen j
      have b0 : (0 : Int) ≤ (j : Int) := by omega
      have b1 : (j : Int) < (n : Int) := by omega
      clear hs hm hx hxs hg hcs
      go_wp2_with fail
      go_roundw
      case rel =>
        refine ⟨j + 1, by omega, by go_num, ?_, ?_, ?_⟩
        · exact HW.out.setCell (Nat.le_refl _) _
        · have h2 := HZ.out
          show _ < _
          simp [World.setCell]
          omega
        · refine ⟨_, (HSB.out).set_ _ _, by simpa using HCS.out, fun i y hi hxi => ?_⟩
          by_cases e : i = j
          · subst e
            rw [HX.out, Option.some.injEq] at hxi
            subst hxi
            rw [Array.getElem?_setIfInBounds_self_of_lt HL0.out]
          · rw [Array.getElem?_setIfInBounds_ne (by omega)]
            exact HMM.out i y (by omega) hxi
      case measure => simp [intOf]; omega
    · have HN : Hid (j = n) := by show _ = _; omega
      go_wp2_with fail
      go_ret
      refine ⟨rfl, Lib.hid ⟨⟨HR.out.1, HR.out.2.1, fun _ => ⟨W.heap.size, 0, rfl, HZ.out, fun i x hx => ?_⟩⟩, HW.out⟩⟩
      obtain ⟨cs, hs, hcs, hm⟩ := HJ.out
      have hil : i < xs.length := (List.getElem?_eq_some_iff.1 hx).1
      have hij : i < j := by have := HN.out; have := HR.out.1; omega
      obtain ⟨_, _, _, _, hc⟩ := HR.out.2.2 (by have := HR.out.1; omega)
      rw [Nat.zero_add]
      exact ⟨(hs.cell _).trans (hm i x hij hx), (hc i x hx).2⟩
end Go.Proofs.YtjhemdgeafglhaaDoor
