/- Contracts: visitNodes, patternNodes's closure, where the body keeps a row of its own: what the body keeps is any relation. No condition. -/
import Derived.Test.YtjeiiljdhnmofaaDoorPtIter
namespace Go.Proofs.YtjeiiljdhnmofaaDoor
open Go Go.RowKit Go.Shelf
attribute [local go_sem] Oper.semAt_some

/-- What a body keeps: K from world to world, where G stands; what lies below n₀ and the visitor's own box lie as they lay. -/
structure Kp (K : World → World → Prop) (G : World → Prop) (n₀ : Nat) : Prop where
  tr : ∀ {X Y Z : World}, K X Y → K Y Z → K X Z
  al : ∀ (W : World) (o : Obj), K W (W.alloc o)
  g : ∀ {W X : World}, G W → K W X → G X
  sz : ∀ {W X : World}, K W X → W.heap.size ≤ X.heap.size
  low : ∀ {W X : World}, G W → K W X → ∀ (p : Addr) (v : Value), p.block < n₀ → W.cell? p = some v → X.cell? p = some v
  box : ∀ {W X : World} {o : Obj}, G W → K (W.alloc o) X → ∀ (i : Nat) (v : Value), (W.alloc o).cell? ⟨W.heap.size, i, none⟩ = some v → X.cell? ⟨W.heap.size, i, none⟩ = some v
theorem PtD.keepL {lo B n₀ : Nat} {W W' : World} (h : ∀ (p : Addr) (v : Value), p.block < n₀ → W.cell? p = some v → W'.cell? p = some v) (hB : B ≤ n₀) : ∀ {d : Nat} {A : Option Addr} {n : Nat} {xs : List Pt}, PtD W lo B d A n xs → PtD W' lo B d A n xs
  | 0, _, _, _, hx => hx
  | d + 1, A, n, xs, hx => ⟨hx.1, hx.2.1, fun hn => by
    obtain ⟨g, off, e, hl, hg, hc⟩ := hx.2.2 hn
    refine ⟨g, off, e, hl, hg, fun j x hj => ?_⟩
    obtain ⟨A', n', c', h1, ⟨k0, k1, k2, k3⟩, h3, h4⟩ := hc j x hj
    exact ⟨A', n', c', h1, ⟨h _ _ (by dsimp only; omega) k0, h _ _ (by dsimp only; omega) k1, h _ _ (by dsimp only; omega) k2, h _ _ (by dsimp only; omega) k3⟩, h3, PtD.keepL h hB h4⟩⟩

/-- The contract of visitNodes at trees of depth at most d: the body keeps K. -/
def VisitGAt (K : World → World → Prop) (G : World → Prop) (l n₀ N : Nat) (J Jx : List Nd → World → Prop) (d : Nat) : Prop :=
  ∀ (n' : Nat) (x : Pt) (A : Option Addr) (n c : Nat) (pre : List Nd) (W : World), x.t.size ≤ maxLen → PtD W 0 n₀ d A n x.kids → G W → J pre W → pre.length + ptCnt x ≤ N →
    CallsIn Fence.wide n' Tryd.prog 69 #[x.ag A n c, .func (.yield l) #[] #[]] W fun e W' =>
      (e = .returned (.bool true) ∧ ∃ ys, ys.map Nd.core = ptPre x ∧ J (pre ++ ys) W' ∧ K W W') ∨ (e = .returned (.bool false) ∧ ∃ ys, ys.map Nd.core <+: ptPre x ∧ Jx (pre ++ ys) W')

set_option maxRecDepth 100000 in
set_option maxHeartbeats 4000000 in
theorem visitG_step (K : World → World → Prop) (G : World → Prop) (l n₀ N : Nat) (J Jx : List Nd → World → Prop) (hab : Kp K G n₀) (hJa : ∀ pre W o, J pre W → J pre (W.alloc o))
    (hY : ∀ m pre (y : Nd) W, J pre W → pre.length < N → YieldAt Fence.wide m Tryd.prog l #[y.ag] W fun e W' => (e = .returned (.bool true) ∧ J (pre ++ [y]) W' ∧ K W W') ∨ (e = .returned (.bool false) ∧ Jx (pre ++ [y]) W'))
    (d : Nat) (n' : Nat) (x : Pt) (A : Option Addr) (n c : Nat) (pre : List Nd) (W : World) (ih : 0 < n → VisitGAt K G l n₀ N J Jx d) (ht : x.t.size ≤ maxLen) (hd : PtD W 0 n₀ (d + 1) A n x.kids) (hb : G W) (hJ : J pre W) (hN : pre.length + ptCnt x ≤ N) :
    CallsIn Fence.wide n' Tryd.prog 69 #[x.ag A n c, .func (.yield l) #[] #[]] W fun e W' =>
      (e = .returned (.bool true) ∧ ∃ ys, ys.map Nd.core = ptPre x ∧ J (pre ++ ys) W' ∧ K W W') ∨ (e = .returned (.bool false) ∧ ∃ ys, ys.map Nd.core <+: ptPre x ∧ Jx (pre ++ ys) W') := by
  obtain ⟨k, m, t, ks⟩ := x
  change t.size ≤ maxLen at ht
  change PtD W 0 n₀ (d + 1) A n ks at hd
  have hlen := hd.1
  have hnm := hd.2.1
  have hdd : ∀ q : Nat, (Fence.wide.depth.isSome = true → 1 ≤ q) := fun q h => by cases h
  have HPE : Hid (ptPre (.node k m t ks) = (k, m, t, n) :: preK ks n) := by show _ = _; rw [ptPre, ptPres_eq, hlen]
  rw [ptCnt, ptCnts_eq, hlen] at hN
  have HPF := HPE
  obtain ⟨PX, hPX⟩ : ∃ PX, ptPre (.node k m t ks) = PX := ⟨_, rfl⟩
  rw [hPX] at HPE ⊢
  have HX := Lib.hid hPX
  clear hPX HPF
  have HD := Lib.hid hd
  have HIH := Lib.hid ih
  have HJA := Lib.hid hJa
  have HNN := Lib.hid hN
  have HBB := Lib.hid hb
  have hK1 : K W (W.alloc (.cells #[.int .i64 k, .int .i64 m, .string t, .slice A n c] 29)) := hab.al W _
  have HAB := Lib.hid hab
  have hR1 : RW 29 (W.alloc (.cells #[.int .i64 k, .int .i64 m, .string t, .slice A n c] 29)) W.heap.size #[.int .i64 k, .int .i64 m, .string t, .slice A n c] := RW.new _ _ _
  obtain ⟨fn, tmps, assign, body, hy, hR⟩ := hY (n' - 1) pre ⟨k, m, t, A, n, c, ht, hnm⟩ _ (hJa _ _ (.cells #[.int .i64 k, .int .i64 m, .string t, .slice A n c] 29) hJ) (by omega)
  have HK1 := Lib.hid hK1
  have HR1 := Lib.hid hR1
  have HND : Hid (∃ y : Nd, y.core = (k, m, t, n) ∧ y = ⟨k, m, t, A, n, c, ht, hnm⟩) := ⟨_, rfl, rfl⟩
  obtain ⟨y0, hy0, hye⟩ := HND.out
  rw [← hye] at hR
  have HY0 := Lib.hid hy0
  unfold maxLen at hnm
  clear hJ hJa hd ih hK1 hR1 hY hN HND hye hy0 hab hb
  show CallsIn Fence.wide n' Tryd.prog 69 #[.agg #[.int .i64 k, .int .i64 m, .string t, .slice A n c], .func (.yield l) #[] #[]] W _
  refine callsIn_of_wp Tryd.func69 rfl trivial ?_ rfl
  simp only [Tryd.ntmps69, List.size_toArray, List.length_cons, List.length_nil, Nat.reduceAdd, Nat.reduceSub, Array.replicate_succ, Array.replicate_zero, List.push_toArray, List.append_toArray, List.nil_append, List.cons_append]
  gi_wp2_with ((try refine ⟨hdd _, ?_⟩); refine hR.mono ?_; clear hR hy; rintro e W2 (⟨rfl, hJ2, hk2⟩ | ⟨rfl, hx2⟩); have r3 : W2.cell? ⟨W.heap.size, 3, none⟩ = some (.slice A n c) := HAB.out.box HBB.out hk2 3 _ (HR1.out.cell 3))
  · have HJ2 := Lib.hid hJ2
    have HK2 := Lib.hid (HAB.out.tr HK1.out hk2)
    clear hJ2 hk2 r3
    gi_loopw [14] (fun i wr => ∃ (k' : Nat) (ys : List Nd), k' ≤ n ∧ i = .int .i64 k' ∧ Hid (ys.map Nd.core = preK ks k') ∧ Hid (J (pre ++ y0 :: ys) wr) ∧ Hid (K W wr)) (fun i _ => n - (intOf i).toNat)
    case atStart => exact ⟨0, [], Nat.zero_le _, rfl, Lib.hid rfl, HJ2, HK2⟩
    case round =>
      obtain ⟨k', ys, hk, rfl, HM, HJ, HK⟩ := hrel
      by_cases hlt : k' < n
      · obtain ⟨g, off, y, A1, n1, c1, rfl, _, hgb, hy, _, hat, hys, hyk⟩ := (HD.out.keepL (HAB.out.low HBB.out HK.out) (Nat.le_refl _)).at_ hlt
        obtain ⟨q0, q1, q2, q3⟩ := hat
        have HNX := Lib.hid (preK_next hy)
        have HPX := Lib.hid (preK_prefix (xs := ks) (show k' + 1 ≤ n by omega))
        have b0 : (0 : Int) ≤ (k' : Int) := by omega
        have b1 : (k' : Int) < (n : Int) := by omega
        have hcn : (pre ++ y0 :: ys).length + ptCnt y ≤ N := by
          have h1 := pcntK_mono (xs := ks) (show k' + 1 ≤ n by omega)
          have h2 := pcntK_next hy
          have h3 := congrArg List.length HM.out
          rw [List.length_map, len_preK] at h3
          have h4 := HNN.out
          simp only [List.length_append, List.length_cons]
          omega
        have HI := Lib.hid (fun X (hX : K wr X) (hj : J (pre ++ y0 :: ys) X) => HIH.out (by omega) (n' - 1) y A1 n1 c1 (pre ++ y0 :: ys) X hys (hyk.keepL (HAB.out.low (HAB.out.g HBB.out HK.out) hX) (Nat.le_refl _)) (HAB.out.g HBB.out (HAB.out.tr HK.out hX)) hj hcn)
        obtain ⟨yk, yn, yt, yks⟩ := y
        change wr.cell? ⟨g, off + k' * 4, none⟩ = some (.int .i64 yk) at q0
        change wr.cell? ⟨g, off + k' * 4 + 1, none⟩ = some (.int .i64 yn) at q1
        change wr.cell? ⟨g, off + k' * 4 + 2, none⟩ = some (.string yt) at q2
        clear hy hys hyk hgb hcn
        gi_wp2_with (refine ⟨trivial, hdd _, ?_⟩; gi_at_call 69; refine (HI.out _ (HAB.out.al wr _) (HJA.out _ _ _ HJ.out)).mono ?_; rintro e W3 (⟨rfl, zs, hz, hJ3, hk3⟩ | ⟨rfl, zs, hz, hx3⟩))
        · go_roundw
          case rel => exact ⟨k' + 1, ys ++ zs, by omega, by go_num, by show _ = _; rw [HNX.out, List.map_append, HM.out, hz], by show J _ _; rw [show pre ++ y0 :: (ys ++ zs) = (pre ++ y0 :: ys) ++ zs from by simp]; exact hJ3, Lib.hid (HAB.out.tr HK.out (HAB.out.tr (HAB.out.al wr _) hk3))⟩
          case measure => simp [intOf]; omega
        · go_ret
          refine .inr ⟨rfl, y0 :: (ys ++ zs), ?_, by rw [show pre ++ y0 :: (ys ++ zs) = (pre ++ y0 :: ys) ++ zs from by simp]; exact hx3⟩
          rw [HPE.out, List.map_cons, HY0.out, List.map_append, HM.out, List.prefix_cons_inj]
          refine (List.prefix_append_right_inj _ |>.2 hz).trans ?_
          rw [← HNX.out]
          exact HPX.out
      · have hkn : k' = n := by omega
        have HMN : Hid (ys.map Nd.core = preK ks n) := by rw [← hkn]; exact HM
        clear hkn HM
        gi_wp2
        go_ret
        exact .inl ⟨rfl, y0 :: ys, by rw [HPE.out, List.map_cons, HY0.out, HMN.out], HJ.out, HK.out⟩
  · go_ret
    exact .inr ⟨rfl, [y0], by rw [HPE.out, List.map_cons, HY0.out, List.map_nil]; exact ⟨preK ks n, rfl⟩, hx2⟩

theorem visitG_all (K : World → World → Prop) (G : World → Prop) (l n₀ N : Nat) (J Jx : List Nd → World → Prop) (hab : Kp K G n₀) (hJa : ∀ pre W o, J pre W → J pre (W.alloc o))
    (hY : ∀ m pre (y : Nd) W, J pre W → pre.length < N → YieldAt Fence.wide m Tryd.prog l #[y.ag] W fun e W' => (e = .returned (.bool true) ∧ J (pre ++ [y]) W' ∧ K W W') ∨ (e = .returned (.bool false) ∧ Jx (pre ++ [y]) W')) :
    ∀ d, VisitGAt K G l n₀ N J Jx d
  | 0 => fun n' x A n c pre W ht hd hb hJ hN => visitG_step K G l n₀ N J Jx hab hJa hY 0 n' x A n c pre W (fun h => absurd h (by have := hd.2; omega)) ht hd.deeper hb hJ hN
  | d + 1 => fun n' x A n c pre W ht hd hb hJ hN => visitG_step K G l n₀ N J Jx hab hJa hY d n' x A n c pre W (fun _ => visitG_all K G l n₀ N J Jx hab hJa hY d) ht hd hb hJ hN

set_option maxHeartbeats 1000000 in
/-- What patternNodes hands back is a walk over the nodes. -/
theorem nodesG_stops (K : World → World → Prop) (G : World → Prop) (n' d n₀ Bt : Nat) (x : Pt) (A : Option Addr) (n c : Nat) (w : World) (hab : Kp K G n₀) (hb : ∀ W, Below w.heap.size w W → G W) (hBt : RW 29 w Bt #[.int .i64 x.k, .int .i64 x.n, .string x.t, .slice A n c]) (ht : x.t.size ≤ maxLen) (hd : PtD w 0 n₀ d A n x.kids) (hn : n₀ ≤ w.heap.size) :
    SeqStopsK Fence.wide n' Tryd.prog 68 #[.pointer (some ⟨Bt, 0, none⟩)] (fun y : Nd => #[y.ag]) K (fun ys => ys.map Nd.core = ptPre x) (fun ys => ys.map Nd.core <+: ptPre x) (ptCnt x) w := by
  intro l J Jx W hW hJ hJx hY h0
  have hdd : ∀ q : Nat, (Fence.wide.depth.isSome = true → 1 ≤ q) := fun q h => by cases h
  have hR := hBt.below hW hBt.lt
  have HP := Lib.hid (visitG_all K G l n₀ (ptCnt x) J Jx hab (fun pre W' o hj => hJ pre W' _ none hj (World.grownBy_alloc W' o none) (fun r e => by cases e)) (fun m pre y W1 hj hl => yieldAny m (hY pre y W1 hj hl)) d (n' - 1) x A n c [] W ht ((hd.below (hW.mono hn))) (hb W hW) h0 (by simp))
  obtain ⟨k, m, t, ks⟩ := x
  have r0 := hR.cell 0
  have r1 := hR.cell 1
  have r2 := hR.cell 2
  have r3 := hR.cell 3
  change W.cell? ⟨Bt, 0, none⟩ = some (.int .i64 k) at r0
  change W.cell? ⟨Bt, 1, none⟩ = some (.int .i64 m) at r1
  change W.cell? ⟨Bt, 2, none⟩ = some (.string t) at r2
  change W.cell? ⟨Bt, 3, none⟩ = some (.slice A n c) at r3
  clear hY h0 hJ hJx hd ht hBt hR hW
  show CallsIn Fence.wide n' Tryd.prog 68 #[.func (.yield l) #[] #[], .pointer (some ⟨Bt, 0, none⟩)] W _
  refine callsIn_of_wp Tryd.func68 rfl trivial ?_ rfl
  simp only [Tryd.ntmps68, List.size_toArray, List.length_cons, List.length_nil, Nat.reduceAdd, Nat.reduceSub, Array.replicate_succ, Array.replicate_zero, List.push_toArray, List.append_toArray, List.nil_append, List.cons_append]
  gi_wp2_with (refine ⟨trivial, hdd _, ?_⟩; gi_at_call 69; refine HP.out.mono ?_; rintro e W1 (⟨rfl, ys, hz, hJ1, hk1⟩ | ⟨rfl, ys, hz, hx1⟩))
  · go_end0
    exact ⟨⟨_, rfl⟩, .inl ⟨ys, hz, by simpa using hJ1⟩⟩
  · go_end0
    exact ⟨⟨_, rfl⟩, .inr ⟨ys, hz, by simpa using hx1⟩⟩
end Go.Proofs.YtjeiiljdhnmofaaDoor
