/- Contract: byteImages of the program. Condition: the strings are not longer than the law lets them be. -/
import Derived.Test.YtgagijddbokfhabRev
import Derived.Laws.Rows
import Derived.Laws.Tables
import Derived.Laws.ResultCell
import Derived.Laws.CopyOwn
namespace Go.Proofs.Ytgagijddbokfhab
open Go Go.RowKit

/-- Block g holds these cells, in a row of 256 bytes. -/
def RB (w : World) (g : Nat) (cs : Array Value) : Prop := w.heap[g]? = some (.cells cs 34 (0, 0))
section
variable {w w' : World} {g : Nat} {cs : Array Value}
theorem RB.lt (h : RB w g cs) : g < w.heap.size := by
  rcases Nat.lt_or_ge g w.heap.size with hl | hge
  · exact hl
  · unfold RB at h; rw [Array.getElem?_eq_none hge] at h; cases h
theorem RB.cell (h : RB w g cs) (i : Nat) : w.cell? ⟨g, i, none⟩ = cs[i]? := by
  unfold RB at h
  simp [World.cell?, h]
theorem RB.frozen (h : RB w g cs) (i : Nat) : w.frozen? ⟨g, i, none⟩ = false := by
  unfold RB at h
  simp [World.frozen?, h]
theorem RB.set_ (h : RB w g cs) (i : Nat) (u : Value) : RB (w.setCell ⟨g, i, none⟩ u) g (cs.setIfInBounds i u) := by
  unfold RB at h ⊢
  simp [World.setCell, Array.getElem?_modify, h]
theorem RB.other (h : RB w g cs) {p : Addr} (hp : g ≠ p.block) (u : Value) : RB (w.setCell p u) g cs := by
  unfold RB at h ⊢
  rw [← h]
  exact Below.heap_setCell w p u g hp
theorem RB.below {B : Nat} (h : RB w g cs) (hb : Below B w w') (hg : g < B) : RB w' g cs := (hb.block g hg).trans h
theorem RB.new (W : World) (cs : Array Value) : RB (W.alloc (.cells cs 34)) W.heap.size cs := by
  unfold RB
  simp [World.alloc, -World.alloc_eq]
end
/-- A row of 256 bytes. -/
def tab (f : Nat → Int) : Array Value := ((List.range 256).map fun b => Value.int .u8 (f b)).toArray
theorem tab_get (f : Nat → Int) (i : Nat) (h : i < 256) : (tab f)[i]? = some (.int .u8 (f i)) := by
  unfold tab
  simp [h]
theorem tab_set (f : Nat → Int) (i : Nat) (v : Int) : (tab f).setIfInBounds i (.int .u8 v) = tab (fun b => if b = i then v else f b) := by
  apply Array.ext_getElem?
  intro j
  rw [Array.getElem?_setIfInBounds]
  by_cases hj : j < 256
  · rw [tab_get _ j hj, tab_get _ j hj]
    by_cases e : i = j
    · subst e
      rw [if_pos rfl, if_pos rfl, if_pos (by simpa [tab] using hj)]
    · rw [if_neg e, if_neg (Ne.symm e)]
  · have h1 : ∀ f, (tab f).size ≤ j := fun f => by simp [tab]; omega
    rw [Array.getElem?_eq_none (h1 _), Array.getElem?_eq_none (h1 _)]
    by_cases e : i = j
    · subst e
      rw [if_pos rfl, if_neg (by have := h1 f; omega)]
    · rw [if_neg e]
theorem tab_congr {f g : Nat → Int} (h : ∀ b, b < 256 → f b = g b) : tab f = tab g := by
  unfold tab
  congr 1
  exact List.map_congr_left fun b hb => by rw [h b (by simpa using hb)]
theorem tab_zero : Array.replicate 256 (Value.int .u8 0) = tab fun _ => 0 := by kernel_rfl
theorem tab_size (f : Nat → Int) : (tab f).size = 256 := by simp [tab]
theorem tab_one (f : Nat → Int) : (tab f).all (·.oneCell') = true := by
  rw [Array.all_eq_true]
  intro i h
  have h' : i < 256 := by rwa [tab_size] at h
  have := tab_get f i h'
  rw [Array.getElem?_eq_getElem h] at this
  rw [Option.some.inj this]
  rfl
/-- By what byte b is replaced, once the first k bytes of the lists are looked at. -/
def imgK (f t : ByteArray) : Nat → Nat → Int
  | 0, b => b
  | k + 1, b => if (b : Int) = PlainAid.bt f k then PlainAid.bt t k else imgK f t k b

theorem zero256 (w : World) : (zeroValue 34).run Try.prog w = .ok (.agg (tab fun _ => 0)) w := by rw [← tab_zero]; kernel_rfl
set_option maxHeartbeats 2000000 in
set_option maxRecDepth 100000 in
theorem byteImages_any (f t : ByteArray) (W : World) (hs : f.size ≤ 1048576) (ht : f.size = t.size) :
    Calls Try.prog 16 #[.string f, .string t] W fun e w' => e = .returned (.agg (tab (imgK f t f.size))) ∧ Below W.heap.size W w' := by
  have hz := zero256
  have hbf := PlainAid.get_bt f
  have hbt := PlainAid.get_bt t
  go_enter Try.func16, Try.ntmps16
  go_wp2_with fail
  go_loopw [8] (fun q wr => ∃ (k : Nat), q = .int .i64 k ∧ k ≤ 256 ∧ Hid (RB wr (W.heap.size + 1) (tab fun b => if b < k then b else 0)) ∧ Hid (RB wr W.heap.size (tab fun _ => 0)) ∧ Hid (Below W.heap.size W wr)) (fun q _ => 256 - (intOf q).toNat)
  case atStart =>
    refine ⟨0, rfl, by omega, ?_, ?_, ((Below.refl _ _).alloc (Nat.le_refl _) _).alloc (by simp) _⟩
    · show RB _ _ _
      have := RB.new (W.alloc (.cells (tab fun _ => 0) 34)) (tab fun _ => 0)
      simpa using this
    · show RB _ _ _
      exact (RB.new W _).below ((Below.refl _ _).alloc (Nat.le_refl _) _) (by simp)
  case round =>
    obtain ⟨k, rfl, hk, HR, HZ, HB⟩ := hrel
    by_cases hlt : k < 256
    · have c1 := HR.out.cell k
      rw [tab_get _ k hlt] at c1
      have f1 := HR.out.frozen k
      go_wp2_with fail
      go_roundw
      case rel =>
        refine ⟨k + 1, by go_num, hlt, ?_, HZ.out.other (by simp) _, HB.out.setCell (by simp) _⟩
        show RB _ _ _
        have h1 := HR.out.set_ k (.int .u8 k)
        rw [tab_set] at h1
        refine (tab_congr fun b _ => ?_) ▸ h1
        by_cases e : b = k
        · subst e; rw [if_pos rfl, if_pos (by omega)]
        · rw [if_neg e]
          by_cases h2 : b < k
          · rw [if_pos h2, if_pos (by omega)]
          · rw [if_neg h2, if_neg (by omega)]
      case measure => first | (simp [intOf]; done) | (simp [intOf]; omega)
    · have HR1 : Hid (RB wr (W.heap.size + 1) (tab (imgK f t 0))) := by
        show RB _ _ _
        refine (tab_congr fun b hb => ?_) ▸ HR.out
        rw [if_pos (by omega)]
        rfl
      have l1 : ¬ (k : Int) < 256 := by omega
      clear HR hlt hk
      go_wp2_with fail
      clear l1
      go_loopw [18] (fun q wr => ∃ (k : Nat), q = .int .i64 k ∧ k ≤ f.size ∧ Hid (RB wr (W.heap.size + 1) (tab (imgK f t k))) ∧ Hid (RB wr W.heap.size (tab fun _ => 0)) ∧ Hid (Below W.heap.size W wr)) (fun q _ => f.size - (intOf q).toNat)
      case atStart => exact ⟨0, rfl, Nat.zero_le _, HR1, HZ, HB⟩
      case round =>
        obtain ⟨k, rfl, hk, HR, HZ, HB⟩ := hrel
        by_cases hlt : k < f.size
        · have b0 := PlainAid.bt_nonneg f k
          have b1 := PlainAid.bt_le f k
          have htl : k < t.size := by omega
          obtain ⟨c, hc⟩ : ∃ c : Nat, PlainAid.bt f k = c := ⟨(PlainAid.bt f k).toNat, by omega⟩
          have HC := Lib.hid hc
          have hcl : c < 256 := by omega
          have c1 := HR.out.cell c
          rw [tab_get _ c hcl] at c1
          have f1 := HR.out.frozen c
          clear b0 b1
          go_wp2_with fail
          go_region
          go_wp2_with fail
          go_roundw
          case rel =>
            refine ⟨k + 1, by go_num, hlt, ?_, ?_, ?_⟩
            · show RB _ _ _
              have h1 := HR.out.set_ c (.int .u8 (PlainAid.bt t k))
              rw [tab_set] at h1
              have h2 : tab (fun b => if b = c then PlainAid.bt t k else imgK f t k b) = tab (imgK f t (k + 1)) := tab_congr fun b _ => by
                unfold imgK
                rw [HC.out]
                by_cases e : b = c
                · rw [if_pos e, if_pos (by omega)]
                · rw [if_neg e, if_neg (by omega)]
                  cases k <;> rfl
              rw [h2] at h1
              exact h1
            · exact HZ.out.other (by simp) _
            · exact (HB.out.setCell (by simp) _).drew
          case measure => first | (simp [intOf]; done) | (simp [intOf]; omega)
        · obtain rfl : k = f.size := by omega
          have hi : (Try.prog.info? 34).map (·.size) = some 256 := by kernel_rfl
          clear hz
          go_wp2_with (first
            | (refine wpList_load_row rfl 34 _ rfl (W.heap.size + 1) rfl 34 _ (0, 0) _ HR.out Try.underlying34 rfl (by rw [tab_size]; exact hi) ?_)
            | (refine wpList_store_row rfl 34 _ _ rfl W.heap.size _ rfl rfl 34 _ HZ.out (by rw [tab_size]; exact hi) (by rw [tab_size, tab_size]) (tab_one _) ?_))
          exact bodyPost_ret (v := .agg (tab (imgK f t f.size))) (results_cell_row Try.results16 _ _ W.heap.size 34 _ (0, 0) _ rfl (setRow_heap _ _ _ _ _ _ HZ.out) Try.underlying34 rfl (by rw [tab_size]; exact hi)) rfl ⟨rfl, below_setRow HB.out (Nat.le_refl _) _⟩
end Go.Proofs.Ytgagijddbokfhab
