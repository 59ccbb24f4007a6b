/- Contract of the model's draw of a string to quote: some string of at most 1,000 bytes. Condition: the code's bytes. -/
import Derived.Test.YtdfikepfjdoooaaDoorDraw
import Derived.Test.YtdfikepfjdoooaaDoorRowO
import Derived.Laws.BytesString
namespace Go.Proofs.YtdfikepfjdoooaaDoor
open Go Go.RowKit

theorem byteInfo : (Tryd.prog.info? 5).map (fun i => (i.zero, i.size, i.bytes)) = some (some (Value.int .u8 0), 1, 1) := by kernel_rfl
theorem conv_bytes (w : World) (g n c : Nat) (xs : List Int) (hn : xs.length = n) (h : ∀ j v, (xs.map (Value.int .u8))[j]? = some v → w.cell? ⟨g, j, none⟩ = some v) :
    ∃ y : ByteArray, y.size = n ∧ (convert 38 9 (.slice (some ⟨g, 0, none⟩) n c)).run Tryd.prog w = .ok (.string y) w := by
  refine ⟨xs.foldl (fun r n => r.push (UInt8.ofNat n.toNat)) ByteArray.empty, ?_, ?_⟩
  · have : ∀ (l : List Int) (r : ByteArray), (l.foldl (fun r n => r.push (UInt8.ofNat n.toNat)) r).size = r.size + l.length := by
      intro l
      induction l with
      | nil => intro r; rfl
      | cons a l ih => intro r; rw [List.foldl_cons, ih, ByteArray.size_push, List.length_cons]; omega
    rw [this, hn]
    simp
  · rw [run_convert_bytes_string _ _ _ 5 _ _ _ Tryd.underlying38 Tryd.underlying5 Tryd.underlying9]
    refine run_bytesToString (P := Tryd.prog) w ⟨g, 0, none⟩ n c xs ?_
    have hl := run_loadCells_list (P := Tryd.prog) (w := w) ⟨g, 0, none⟩ (xs.map (Value.int .u8)) fun j v hv => ?_
    · rwa [List.length_map, hn] at hl
    · rw [show (⟨g, 0, none⟩ : Addr).add j = ⟨g, j, none⟩ from by unfold Addr.add; split <;> simp_all]
      exact h j v hv

theorem conv3 (w : World) : ∃ y : ByteArray, y.size = 3 ∧ (convert 38 9 (.slice (some ⟨w.heap.size, 0, none⟩) 3 3)).run Tryd.prog (w.alloc (.cells #[.int .u8 0, .int .u8 0, .int .u8 0] 5)) = .ok (.string y) (w.alloc (.cells #[.int .u8 0, .int .u8 0, .int .u8 0] 5)) :=
  conv_bytes _ w.heap.size 3 3 [0, 0, 0] rfl fun j v hv => by
    rw [cell_of_row (w.alloc (.cells #[.int .u8 0, .int .u8 0, .int .u8 0] 5)) w.heap.size j #[.int .u8 0, .int .u8 0, .int .u8 0] 5 (0, 0) (heap_alloc_new w _), ← hv]
    simp
theorem make3 (w : World) : (Instr.makeSlice 38 (.int .i64 3) (.int .i64 3)).run Tryd.prog w = .ok (.slice (some ⟨w.heap.size, 0, none⟩) 3 3) (w.alloc (.cells #[.int .u8 0, .int .u8 0, .int .u8 0] 5)) := by kernel_rfl

theorem Src.alloc {w : World} {g k : Nat} (h : Src w g k) (o : Obj) : Src (w.alloc o) g k := by
  obtain ⟨A, n, c, sd, hn, hh, hc⟩ := h
  have hg : g < w.heap.size := by
    rcases Nat.lt_or_ge g w.heap.size with h | h
    · exact h
    · rw [Array.getElem?_eq_none h] at hh; cases hh
  exact ⟨A, n, c, sd, hn, ((World.grownBy_alloc w o none).block g hg (by simp)).trans hh, hc.below ((Below.refl g w).alloc (Nat.le_of_lt hg) _)⟩
theorem Src.lt {w : World} {g k : Nat} (h : Src w g k) : g < w.heap.size := by
  obtain ⟨A, n, c, sd, hn, hh, hc⟩ := h
  rcases Nat.lt_or_ge g w.heap.size with h | h
  · exact h
  · rw [Array.getElem?_eq_none h] at hh; cases hh
theorem Src.grown {w w' : World} {g k : Nat} {row : Option Nat} (h : Src w g k) (hg : w.grownBy w' row) (hr : ∀ b, row = some b → g < b) : Src w' g k := by
  have hl := h.lt
  obtain ⟨A, n, c, sd, hn, hh, hc⟩ := h
  refine ⟨A, n, c, sd, hn, (hg.block g hl (fun e => by have := hr g e.symm; omega)).trans hh, fun hn => ?_⟩
  obtain ⟨b, off, e, hb, hcc⟩ := hc hn
  refine ⟨b, off, e, hb, fun j hj => ?_⟩
  obtain ⟨x, hx, r⟩ := hcc j hj
  exact ⟨x, hg.cell hx (fun e => by have := hr b e.symm; simp at *; omega), r⟩
theorem own_bytes {w : World} {B k : Nat} {v : Value} (h : w.ownsRow B 5 1 v k (List.replicate k (.int .u8 97))) (hk : 0 < k) : ∃ b cap, v = .slice (some ⟨b, 0, none⟩) k cap ∧ ∀ j u, ((List.replicate k (97 : Int)).map (Value.int .u8))[j]? = some u → w.cell? ⟨b, j, none⟩ = some u := by
  rcases h.2 with ⟨_, h0⟩ | ⟨b, cap, cur, rfl, hb, hh, hnc, _, hcs, ht⟩
  · omega
  · refine ⟨b, cap, rfl, fun j u hu => ?_⟩
    rw [List.map_replicate] at hu
    rw [cell_of_row w b j cur _ (0, 0) hh]
    have hj : j < k := by have := (List.getElem?_eq_some_iff.1 hu).1; simpa using this
    have h1 := congrArg (·[j]?) ht
    simp only [List.getElem?_take, Nat.mul_one, if_pos hj] at h1
    rw [hu] at h1
    rw [← h1, Array.getElem?_toList]
theorem own_other {w w' : World} {g n : Nat} {t : TypeId} {v : Value} {xs : List Value} (h : w.ownsRow (g + 1) t 1 v n xs) (hg : w.grownBy w' (some g)) : w'.ownsRow (g + 1) t 1 v n xs :=
  h.kept hg (by
    cases hv : v.ownBlock with
    | none => exact .inl rfl
    | some b =>
      refine .inr fun e => ?_
      have := (h.lt b hv).1
      cases e
      omega)
theorem pick3_drew (g q : Nat) (W : World) (hs : Src W g q) (hk : q ≤ 1000000) :
    Calls Tryd.prog 78 #[.pointer (some ⟨g, 0, none⟩), .int .i64 3] W fun e w' => ∃ (r : Int) (k' : Nat), e = .returned (.int .i64 r) ∧ Hid (0 ≤ r ∧ r ≤ 2 ∧ k' ≤ q + 2 ∧ Src w' g k' ∧ W.grownBy w' (some g)) :=
  (pick_any g q 3 W hs hk (by decide)).mono fun e w' ⟨r, k', he, hr, h1, h2, h3⟩ => ⟨r, k', he, Lib.hid ⟨hr.1, by have := hr.2; omega, h1, h2, h3⟩⟩

set_option maxHeartbeats 4000000 in
set_option maxRecDepth 100000 in
theorem DrawCanQuote_any (A : Option Addr) (n c : Nat) (W : World) (hn : n ≤ 1048576) (hc : Code W W.heap.size A n) :
    Calls Tryd.prog 30 #[.slice A n c] W fun e w' => ∃ y : ByteArray, e = .returned (.string y) ∧ Hid (y.size ≤ 1000 ∧ Below W.heap.size W w') := by
  have HF := Lib.hid (l00From_any A n c W hn hc)
  have HLT : Hid (W.heap.size = W.heap.size) := rfl
  clear hn hc
  obtain ⟨g, hg⟩ : ∃ g, W.heap.size = g := ⟨_, rfl⟩
  have HGW : Hid (W.heap.size = g) := hg
  obtain ⟨i0, hi0, hz0, hz1, hz2⟩ := info_parts byteInfo
  go_enter Tryd.func30, Tryd.ntmps30
  go_wp2_with (first
    | (go_at_call 74; refine HF.out.mono ?_; rintro e w1 ⟨rfl, hs, hb⟩; have S1 : Hid (Src w1 g 0) := hg ▸ hs; have B1 : Hid (Below W.heap.size W w1) := hb; rw [hg]; clear hs hb HF hg)
    | (go_at_call 77; refine (one_any g 0 6 _ S1.out (by decide) (by decide)).mono ?_; rintro e w2 ⟨b1, k1, rfl, hp⟩; have S2 : Hid (k1 ≤ 2 ∧ Src w2 g k1) := ⟨hp.out.1, hp.out.2.1⟩; have B2 : Hid (Below W.heap.size W w2) := B1.out.grown hp.out.2.2 B1.out.size (fun k hk => by cases hk; rw [HGW.out]; exact Nat.le_refl _); have hmk := make3 w2; obtain ⟨y3, hy3, hcv3⟩ := conv3 w2; clear hp S1 B1)
    | (go_at_call 77; refine (one_any g k1 6 _ S2.out.2 (by have := S2.out.1; omega) (by decide)).mono ?_; rintro e w3 ⟨b2, k2, rfl, hp⟩; have S3 : Hid (k2 ≤ 4 ∧ Src w3 g k2) := ⟨by have := hp.out.1; have := S2.out.1; omega, hp.out.2.1⟩; have B3 : Hid (Below W.heap.size W w3) := B2.out.grown hp.out.2.2 B2.out.size (fun k hk => by cases hk; rw [HGW.out]; exact Nat.le_refl _); clear hp S2 B2 hmk hcv3 hy3))
  · go_ret
    exact ⟨y3, rfl, Lib.hid ⟨by omega, B2.out.alloc B2.out.size _⟩⟩
  · first
      | (have hb2 : b2 = true := by assumption
         subst hb2)
      | (have hb2 : b2 = false := by assumption
         subst hb2)
    have HO0 : Hid ((w3.alloc (.cells #[] 5)).ownsRow (g + 1) 5 1 (.slice (some ⟨w3.heap.size, 0, none⟩) 0 0) 0 []) := World.ownsRow_lit (base := g + 1) (e := 5) (size := 1) w3 #[] 0 S3.out.2.lt (by decide) rfl
    have HS0 : Hid (k2 ≤ 4 ∧ Src (w3.alloc (.cells #[] 5)) g k2) := ⟨S3.out.1, S3.out.2.alloc _⟩
    have HW0 : Hid (Below W.heap.size W (w3.alloc (.cells #[] 5))) := B3.out.alloc B3.out.size _
    generalize w3.alloc (.cells #[] 5) = w4 at HO0 HS0 HW0 ⊢
    go_loopw [4, 5] (fun v i wr => ∃ k q : Nat, i = .int .i64 k ∧ k ≤ 201 ∧ Hid (wr.ownsRow (g + 1) 5 1 v k (List.replicate k (.int .u8 97))) ∧ Hid (q ≤ 4 + 2 * k ∧ Src wr g q) ∧ Hid (Below W.heap.size W wr)) (fun _ i _ => 202 - (intOf i).toNat)
    case atStart => exact ⟨0, k2, rfl, by omega, HO0, HS0, HW0⟩
    case round =>
      obtain ⟨k, q, rfl, hk, HO, HS, HW⟩ := hrel
      by_cases hk0 : k < 199
      · have HK1 : k + 1 ≤ 201 := by omega
        go_wp2_with (first
          | (go_at_call 78; go_loud (refine (pick3_drew g q _ HS.out.2 (by have := HS.out.1; omega)).mono ?_; rintro e w5 ⟨r, k', rfl, hp⟩; have r0 := hp.out.1; have r1 := hp.out.2.1; have f1 : IntKind.i64.wrap (199 + r) = 199 + r := IntWalk.i64_in _ (by omega); have S5 : Hid (k' ≤ 4 + 2 * (k + 1) ∧ Src w5 g k') := ⟨by have := hp.out.2.2.1; have := HS.out.1; omega, hp.out.2.2.2.1⟩; have B5 : Hid (Below W.heap.size W w5) := HW.out.grown hp.out.2.2.2.2 HW.out.size (fun b hb => by cases hb; rw [HGW.out]; exact Nat.le_refl _); have O5 := Lib.hid (own_other HO.out hp.out.2.2.2.2); have d1 : decide ((k : Int) < 199 + r) = true := decide_eq_true (by omega); clear hp HS HW HO))
          | (at_builtin; refine wpList_append_own _ rfl _ _ 38 rfl (g + 1) 5 i0 (.int .u8 0) 1 1 Tryd.underlying38 hi0 hz0 hz1 hz2 rfl (by decide) _ _ _ rfl (O5.out.alloc _) ⟨w5.heap.size, 0, none⟩ 1 1 [.int .u8 97] rfl rfl (cell_one_new _ _ _) (fun x hx => by simp at hx; subst hx; rfl) (by unfold maxLen; omega) (by omega) (by have := S5.out.2.lt; simp; omega) ?_; intro v1 w6 hown1 hgr1 _))
        go_roundw
        case rel =>
          refine ⟨k + 1, k', by go_num, HK1, Lib.hid (by rw [List.replicate_succ']; exact hown1), Lib.hid ⟨S5.out.1, ?_⟩, ?_⟩
          · refine Src.grown (S5.out.2.alloc _) hgr1 (fun b hb => ?_)
            have := (O5.out.lt b hb).1
            omega
          · exact Lib.hid ((B5.out.alloc B5.out.size _).grown hgr1 (by have := B5.out.size; simp; omega) (fun b hb => by have := (O5.out.lt b hb).1; have := HGW.out; omega))
        case measure => simp [intOf]; omega
      · obtain ⟨b, cap, rfl, hcell⟩ := own_bytes HO.out (by omega)
        clear hcell
        by_cases hk1 : k = 201
        · have HK2 := Lib.hid hk1
          clear hk1
          go_wp2_with (first
            | (go_at_call 78; refine (pick3_drew g q _ HS.out.2 (by have := HS.out.1; omega)).mono ?_; rintro e w5 ⟨r, k', rfl, hp⟩; have r0 := hp.out.1; have r1 := hp.out.2.1; have f1 : IntKind.i64.wrap (199 + r) = 199 + r := IntWalk.i64_in _ (by omega); have S5 : Hid (k' ≤ 4 + 2 * (k + 1) ∧ Src w5 g k') := ⟨by have := hp.out.2.2.1; have := HS.out.1; omega, hp.out.2.2.2.1⟩; have B5 : Hid (Below W.heap.size W w5) := HW.out.grown hp.out.2.2.2.2 HW.out.size (fun b hb => by cases hb; rw [HGW.out]; exact Nat.le_refl _); have O5 := Lib.hid (own_other HO.out hp.out.2.2.2.2); have d1 : decide ((k : Int) < 199 + r) = false := decide_eq_false (by have := HK2.out; omega); obtain ⟨b', cap', hv', hcell⟩ := own_bytes O5.out (by omega); simp only [Value.slice.injEq, Option.some.injEq, Addr.mk.injEq, and_true, true_and] at hv'; obtain ⟨rfl, rfl⟩ := hv'; obtain ⟨y, hy, hcv⟩ := conv_bytes w5 b k cap (List.replicate k 97) (by simp) hcell; clear hcell; clear hp HS HW HO))
          go_ret
          exact ⟨y, rfl, Lib.hid ⟨by omega, B5.out⟩⟩
        · have HK1 : k + 1 ≤ 201 := by omega
          go_wp2_with (first
            | (go_at_call 78; refine (pick3_drew g q _ HS.out.2 (by have := HS.out.1; omega)).mono ?_; rintro e w5 ⟨r, k', rfl, hp⟩; have r0 := hp.out.1; have r1 := hp.out.2.1; have f1 : IntKind.i64.wrap (199 + r) = 199 + r := IntWalk.i64_in _ (by omega); have S5 : Hid (k' ≤ 4 + 2 * (k + 1) ∧ Src w5 g k') := ⟨by have := hp.out.2.2.1; have := HS.out.1; omega, hp.out.2.2.2.1⟩; have B5 : Hid (Below W.heap.size W w5) := HW.out.grown hp.out.2.2.2.2 HW.out.size (fun b hb => by cases hb; rw [HGW.out]; exact Nat.le_refl _); have O5 := Lib.hid (own_other HO.out hp.out.2.2.2.2); obtain ⟨b', cap', hv', hcell⟩ := own_bytes O5.out (by omega); simp only [Value.slice.injEq, Option.some.injEq, Addr.mk.injEq, and_true, true_and] at hv'; obtain ⟨rfl, rfl⟩ := hv'; obtain ⟨y, hy, hcv⟩ := conv_bytes w5 b k cap (List.replicate k 97) (by simp) hcell; clear hcell; clear hp HS HW HO)
            | (at_builtin; refine wpList_append_own _ rfl _ _ 38 rfl (g + 1) 5 i0 (.int .u8 0) 1 1 Tryd.underlying38 hi0 hz0 hz1 hz2 rfl (by decide) _ _ _ rfl (O5.out.alloc _) ⟨w5.heap.size, 0, none⟩ 1 1 [.int .u8 97] rfl rfl (cell_one_new _ _ _) (fun x hx => by simp at hx; subst hx; rfl) (by unfold maxLen; omega) (by omega) (by have := S5.out.2.lt; simp; omega) ?_; intro v1 w6 hown1 hgr1 _))
          · go_roundw
            case rel =>
              refine ⟨k + 1, k', by go_num, HK1, Lib.hid (by rw [List.replicate_succ']; exact hown1), Lib.hid ⟨S5.out.1, ?_⟩, ?_⟩
              · refine Src.grown (S5.out.2.alloc _) hgr1 (fun b hb => ?_)
                have := (O5.out.lt b hb).1
                omega
              · exact Lib.hid ((B5.out.alloc B5.out.size _).grown hgr1 (by have := B5.out.size; simp; omega) (fun b hb => by have := (O5.out.lt b hb).1; have := HGW.out; omega))
            case measure => simp [intOf]; omega
          · go_ret
            exact ⟨y, rfl, Lib.hid ⟨by omega, B5.out⟩⟩
  · obtain ⟨w4, hw4⟩ : ∃ w4, w3.alloc (.cells #[.string ⟨#[]⟩, .string ⟨#[97]⟩, .string ⟨#[105, 116, 39, 115]⟩, .string ⟨#[115, 97, 121, 32, 34, 120, 34]⟩, .string ⟨#[39, 34]⟩] 9) = w4 := ⟨_, rfl⟩
    have HT := Lib.hid (text_any g k2 w3.heap.size 5 [⟨#[]⟩, ⟨#[97]⟩, ⟨#[105, 116, 39, 115]⟩, ⟨#[115, 97, 121, 32, 34, 120, 34]⟩, ⟨#[39, 34]⟩] w4 (hw4 ▸ S3.out.2.alloc _) (by have := S3.out.1; omega) (by decide) (by decide) (by have := S3.out.2.lt; omega) (fun j x hx => by
      rw [← hw4, cell_of_row _ w3.heap.size j #[.string ⟨#[]⟩, .string ⟨#[97]⟩, .string ⟨#[105, 116, 39, 115]⟩, .string ⟨#[115, 97, 121, 32, 34, 120, 34]⟩, .string ⟨#[39, 34]⟩] 9 (0, 0) (heap_alloc_new w3 _)]
      match j, hx with
      | 0, hx => simp at hx; subst hx; rfl
      | 1, hx => simp at hx; subst hx; rfl
      | 2, hx => simp at hx; subst hx; rfl
      | 3, hx => simp at hx; subst hx; rfl
      | 4, hx => simp at hx; subst hx; rfl))
    have B4 : Hid (Below W.heap.size W w4) := by show Below _ _ _; rw [← hw4]; exact B3.out.alloc B3.out.size _
    rw [hw4]
    go_wp2_with (go_at_call 79; refine HT.out.mono ?_; rintro e w5 ⟨x, k', rfl, hp⟩)
    go_ret
    refine ⟨x, rfl, Lib.hid ⟨?_, B4.out.grown hp.out.2.2.2 B4.out.size (fun b hb => by cases hb; rw [HGW.out]; exact Nat.le_refl _)⟩⟩
    have hm := hp.out.1
    simp only [List.mem_cons, List.not_mem_nil, or_false] at hm
    rcases hm with rfl | rfl | rfl | rfl | rfl <;> decide
end Go.Proofs.YtdfikepfjdoooaaDoor
