/- Contract: FinalOf of the model. Condition: a bound on the list. -/
import Derived.Test.YtdlhoakcpdaboaaFinP
import Derived.BigQuiet
import Derived.WalkSmall
namespace Go.Proofs.Ytdlhoakcpdaboaa
open Go Go.RowKit

theorem asInfo : (Try.prog.info? 52).map (fun i => (i.zero, i.size, i.bytes)) = some (some (Value.agg #[.string ⟨#[]⟩, .string ⟨#[]⟩, .bool false, .int .i64 0]), 4, 48) := by kernel_rfl
theorem cell_four_new (w : World) (x0 x1 x2 x3 : Value) (t : TypeId) : ∀ j u, [x0, x1, x2, x3][j]? = some u → (w.alloc (.cells #[x0, x1, x2, x3] t)).cell? ((⟨w.heap.size, 0, none⟩ : Addr).add j) = some u := by
  intro j u hj
  have hc := cell_of_row (w.alloc (.cells #[x0, x1, x2, x3] t)) w.heap.size j #[x0, x1, x2, x3] t (0, 0) (heap_alloc_new w _)
  have ha : (⟨w.heap.size, 0, none⟩ : Addr).add j = ⟨w.heap.size, j, none⟩ := by unfold Addr.add; split <;> simp_all
  rw [ha, hc]
  rw [← hj]
  simp
theorem own_drewN {w : World} {B sz n : Nat} {e : TypeId} {v : Value} {ys : List Value} (h : w.ownsRow B e sz v n ys) (q : Nat) : (w.drewN q).ownsRow B e sz v n ys := h
theorem ownAs_drewN {w : World} {B : Nat} {v : Value} {ys : List As} (h : OwnAs w B v ys) (q : Nat) : OwnAs (w.drewN q) B v ys := h
theorem ownAs_setN {w : World} {B g c m j q : Nat} {ys : List As} (y : As) (h : OwnAs w B (.slice (some ⟨g, 0, none⟩) ys.length c) ys) (hm : ys.length = m) (hj : j < m) : OwnAs ((w.drewN q).setCells g (j * 4) y.vs) B (.slice (some ⟨g, 0, none⟩) m c) (ys.set j y) := by
  subst hm
  exact ownAs_set (w := w.drewN q) y h hj
theorem ownAs_nv {w : World} {B n c : Nat} {A : Option Addr} {ys : List As} (h : OwnAs w B (.slice A ys.length c) ys) (hn : ys.length = n) : w.ownsRow B 52 4 (.slice A n c) n (cellsAs ys) := by
  subst hn
  exact h
theorem ownAs_n {w : World} {B n : Nat} {v : Value} {ys : List As} (h : OwnAs w B v ys) (hn : ys.length = n) : w.ownsRow B 52 4 v n (cellsAs ys) := by
  subst hn
  exact h
theorem as_grow {W wr w1 : World} {v : Value} {ys : List As} {o : Obj} (h : Below W.heap.size W wr) (hO : OwnAs wr W.heap.size v ys) (hg : (wr.alloc o).grownBy w1 v.ownBlock) : Below W.heap.size W w1 :=
  (h.alloc h.size _).grown hg (by have := h.size; simp; omega) (ownAs_ge hO)

set_option maxHeartbeats 4000000 in
set_option maxRecDepth 100000 in
theorem spec_FinalOf_any (A : Option Addr) (n c : Nat) (xs : List As) (W : World) (ha : AsI W W.heap.size A n xs) (hn : n ≤ 1048576) :
    Calls Try.prog 20 #[.slice A n c] W (RetAs W (finT xs)) := by
  obtain ⟨i0, hi0, hz0, hz1, hz2⟩ := info_parts asInfo
  have HI := Lib.hid (And.intro hi0 (And.intro hz0 (And.intro hz1 hz2)))
  have HA := Lib.hid ha
  have HLN := Lib.hid ha.1
  clear hi0 hz0 hz1 hz2 ha
  go_enter Try.func20, Try.ntmps20
  go_wp2_with fail
  go_loopw [3, 4] (fun v q wr => ∃ (k : Nat), k ≤ n ∧ q = .int .i64 k ∧ Hid (OwnAs wr W.heap.size v (finK xs k)) ∧ Hid (Below W.heap.size W wr)) (fun _ q _ => n - (intOf q).toNat)
  case atStart => exact ⟨0, Nat.zero_le _, rfl, World.ownsRow_lit W #[] 0 (Nat.le_refl _) (by decide) rfl, below_alloc _ _⟩
  case round =>
    obtain ⟨k, hk, rfl, HO, HW⟩ := hrel
    by_cases hlt : k < n
    · obtain ⟨b, off, x, rfl, hg, hx, hat, hsz⟩ := (HA.out.below HW.out).at_ hlt
      have HX := Lib.hid hx
      have HAT := Lib.hid hat
      have HSZ := Lib.hid hsz
      have HG := Lib.hid hg
      have HNX := Lib.hid (finK_next hx)
      have hl0 := finK_len xs k
      obtain ⟨m, hm⟩ : ∃ m, (finK xs k).length = m := ⟨_, rfl⟩
      have HM := Lib.hid hm
      have hm2 : m ≤ 1048576 := by omega
      generalize finK xs k = out at HO HNX HM
      clear hx hat hsz hg hm hl0
      obtain ⟨xn, xt, xb, xz⟩ := x
      change Hid (finK xs (k + 1) = finS out ⟨xn, xt, xb, xz⟩) at HNX
      obtain ⟨A1, c1, hv, _⟩ := ownAs_row HO.out
      subst hv
      have HOn0 := Lib.hid (ownAs_n HO.out HM.out)
      rw [HM.out]
      have HWS := Lib.hid HW.out.size
      have b0 : (0 : Int) ≤ (k : Int) := by omega
      have b1 : (k : Int) < (n : Int) := by omega
      go_wp2_with fail
      go_loopw [5] (fun q wr2 => ∃ (j : Nat), j ≤ m ∧ q = .int .i64 j ∧ Hid (∀ (i : Nat) (a : As), i < j → out[i]? = some a → (a.name_.toList == xn.toList) = false) ∧ Hid (Below W.heap.size W wr2 ∧ OwnAs wr2 W.heap.size (.slice A1 out.length c1) out ∧ AsAt wr2 b (off + k * 4) ⟨xn, xt, xb, xz⟩)) (fun q _ => m - (intOf q).toNat)
      case atStart => exact ⟨0, Nat.zero_le _, rfl, (fun i a hi => absurd hi (by omega)), HW.out, HO.out, HAT.out⟩
      case round =>
        obtain ⟨j, hj, rfl, HNO, HST⟩ := hrel
        have HW2 := Lib.hid HST.out.1
        have HO2 := Lib.hid HST.out.2.1
        have HX2 := Lib.hid HST.out.2.2
        obtain ⟨x0, x1, x2, x3⟩ := HST.out.2.2
        dsimp only at x0 x1 x2 x3
        by_cases hlt2 : j < m
        · obtain ⟨g, c2, hv2, hg1, hg2, hcells⟩ := ownAs_some HO2.out (by rw [HM.out]; omega)
          simp only [Value.slice.injEq, true_and] at hv2
          obtain ⟨rfl, rfl⟩ := hv2
          obtain ⟨y, hy⟩ : ∃ y, out[j]? = some y := ⟨_, List.getElem?_eq_getElem (by have := HM.out; omega)⟩
          obtain ⟨yn, yt, yb, yz⟩ := y
          have q0 := hcells j 0 _ (.string yn) hy rfl
          have q1 := hcells j 1 _ (.string yt) hy rfl
          have q2 := hcells j 2 _ (.bool yb) hy rfl
          have q3 := hcells j 3 _ (.int .i64 yz) hy rfl
          rw [Nat.add_zero] at q0
          obtain ⟨q0, f0⟩ := q0
          obtain ⟨q1, f1⟩ := q1
          obtain ⟨q2, f2⟩ := q2
          obtain ⟨q3, f3⟩ := q3
          have HY := Lib.hid hy
          have HG1 := Lib.hid hg1
          have b2 : (0 : Int) ≤ (j : Int) := by omega
          have b3 : (j : Int) < (m : Int) := by omega
          clear hcells hy hg1
          obtain ⟨z, hz⟩ : ∃ z, (yn.toList == xn.toList) = z := ⟨_, rfl⟩
          have HZ := Lib.hid hz
          cases z
          · clear f0 f1 f2 f3 q1 q2 q3
            go_wp2_with fail
            go_quiet (fail)
            go_wp2_with fail
            go_roundw
            case rel =>
              refine ⟨j + 1, by omega, by go_num, Lib.hid fun i a hi ha => ?_, Lib.hid ⟨below_drewN HW2.out _, own_drewN HO2.out _, HX2.out⟩⟩
              by_cases e : i = j
              · subst e
                rw [HY.out, Option.some.injEq] at ha
                subst ha
                exact HZ.out
              · exact HNO.out i a (by omega) ha
            case measure => simp [intOf]; omega
          · have HSET := Lib.hid (fun q => ownAs_setN (q := q) ⟨xn, xt, xb, xz⟩ HO2.out HM.out hlt2)
            have HF := Lib.hid (finS_some (x := ⟨xn, xt, xb, xz⟩) HNO.out HY.out HZ.out).1
            go_wp2_with fail
            go_quiet (fail)
            go_wp2_with fail
            go_roundw
            case rel =>
              refine ⟨k + 1, by omega, by go_num, ?_, ?_⟩
              · refine Lib.hid ?_
                rw [HNX.out, HF.out]
                exact HSET.out _
              · exact Lib.hid ((below_drewN HW2.out _).trans (below_cells (b := g) HG1.out [.string xn, .string xt, .bool xb, .int .i64 xz] _ (j * 4)))
            case measure => simp [intOf]; omega
        · have hjm : j = m := by omega
          subst hjm
          have HF := Lib.hid (finS_none (x := ⟨xn, xt, xb, xz⟩) (out := out) fun i a ha => HNO.out i a (by have := (List.getElem?_eq_some_iff.1 ha).1; have := HM.out; omega) ha).1
          have HOd := Lib.hid (fun q o => (own_drewN (ownAs_nv HO2.out HM.out) q).alloc o)
          have hj3 : j ≤ 1048576 := by omega
          go_wp2_with fail
          go_quiet (fail)
          go_wp2_with (at_builtin; refine wpList_append_own _ rfl _ _ 38 rfl W.heap.size 52 i0 (.agg #[.string ⟨#[]⟩, .string ⟨#[]⟩, .bool false, .int .i64 0]) 4 48 Try.underlying38 HI.out.1 HI.out.2.1 HI.out.2.2.1 HI.out.2.2.2 rfl (by decide) _ _ _ rfl (HOd.out _ _) ⟨_, 0, none⟩ 1 1 [.string xn, .string xt, .bool xb, .int .i64 xz] rfl rfl (cell_four_new _ _ _ _ _ _) (fun x hx => by simp at hx; rcases hx with rfl | rfl | rfl | rfl <;> rfl) (by unfold maxLen; omega) (by omega) (by have := HW2.out.size; simp; omega) ?_; intro v1 w3 hown1 hgr1 _)
          go_roundw
          case rel =>
            refine ⟨k + 1, by omega, by go_num, ?_, ?_⟩
            · refine Lib.hid ?_
              rw [HNX.out, HF.out]
              exact ownAs_snoc ⟨xn, xt, xb, xz⟩ hown1 HM.out
            · exact Lib.hid (as_grow (below_drewN HW2.out _) (own_drewN HO2.out _) (by rw [HM.out]; exact hgr1))
          case measure => simp [intOf]; omega
    · have hkn : k = n := by omega
      have HN : Hid (finK xs k = finT xs) := by show _ = _; unfold finT; rw [HLN.out, hkn]
      obtain ⟨A1, c1, hv, hr⟩ := ownAs_row HO.out
      have HR := Lib.hid hr
      subst hv
      rw [HN.out] at HR ⊢
      clear hkn hr
      go_wp2_with fail
      go_ret
      exact ⟨A1, c1, rfl, Lib.hid ⟨HR.out, HW.out⟩⟩
end Go.Proofs.Ytdlhoakcpdaboaa
