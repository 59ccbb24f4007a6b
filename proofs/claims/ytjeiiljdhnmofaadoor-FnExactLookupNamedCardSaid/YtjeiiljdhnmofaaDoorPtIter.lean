/- Contracts: visitNodes, patternNodes and its closure: the nodes of a tree from left to right, each one before its Kids, come to the body of a loop. No condition. -/
import Derived.Test.YtjeiiljdhnmofaaDoorPtPlain
import Derived.RangeFuncNested
import Derived.RangeFuncBound
import Derived.RangeFuncCalls
import Derived.RangeFuncLeaves
import Derived.Shelf.Abstract
import Derived.Shelf.RegionOpen
import Derived.WalkKit
import Derived.OwnWalkIn
import Derived.TacticsInMore
import Derived.LoopNIn
import Derived.LoopIn
namespace Go.Proofs.YtjeiiljdhnmofaaDoor
open Go Go.RowKit Go.Shelf
attribute [local go_sem] Oper.semAt_some

/-- Whatever is cells, but for the blocks from a up to b, lies as it lay. -/
def KeepC (a b : Nat) (W W' : World) : Prop := W.heap.size ≤ W'.heap.size ∧ ∀ (i : Nat) (o : Obj), (i < a ∨ b ≤ i) → W.heap[i]? = some o → o.isCells = true → W'.heap[i]? = some o
theorem KeepC.refl (a b : Nat) (W : World) : KeepC a b W W := ⟨Nat.le_refl _, fun _ _ _ h _ => h⟩
theorem KeepC.trans {a b : Nat} {X Y Z : World} (h : KeepC a b X Y) (k : KeepC a b Y Z) : KeepC a b X Z := ⟨Nat.le_trans h.1 k.1, fun i o hi ho hc => k.2 i o hi (h.2 i o hi ho hc) hc⟩
theorem KeepC.of_below {a b B : Nat} {W W' : World} (h : Below B W W') (hB : W.heap.size ≤ B) : KeepC a b W W' := ⟨h.size, fun i o _ ho _ => (h.block i (by have := (Array.getElem?_eq_some_iff.1 ho).1; omega)).trans ho⟩
theorem KeepC.alloc (a b : Nat) (W : World) (o : Obj) : KeepC a b W (W.alloc o) := .of_below (below_alloc W o) (Nat.le_refl _)
theorem KeepC.set {a b : Nat} {W : World} {q : Addr} (h1 : a ≤ q.block) (h2 : q.block < b) (v : Value) : KeepC a b W (W.setCell q v) := ⟨Nat.le_of_eq (size_set _ _ _).symm, fun i o hi ho _ => (Below.heap_setCell W q v i (by omega)).trans ho⟩
theorem KeepC.cell {a b : Nat} {W W' : World} (h : KeepC a b W W') {p : Addr} {v : Value} (hp : p.block < a ∨ b ≤ p.block) (hv : W.cell? p = some v) : W'.cell? p = some v := by
  obtain ⟨o, ho, hc⟩ := cells_of_cell hv
  have h2 := h.2 _ _ hp ho hc
  unfold World.cell? at hv ⊢
  rw [h2]
  rw [ho] at hv
  exact hv
theorem keepC_b {a b : Nat} (W : World) (l : Nat) (o o' : Obj) (h : W.heap[l]? = some o) (hc : o.isCells = false) : KeepC a b W (W.putObj l o') := by
  refine ⟨by simp [World.putObj], fun i x _ hi hx => ?_⟩
  by_cases e : i = l
  · subst e
    rw [h, Option.some.injEq] at hi
    rw [hi] at hc
    rw [hc] at hx
    cases hx
  · exact (World.putObj_heap_other e).trans hi
theorem PtAt.keepC {a b : Nat} {W W' : World} (h : KeepC a b W W') {g o : Nat} (hg : g < a) {x : Pt} {A : Option Addr} {n c : Nat} (hx : PtAt W g o x A n c) : PtAt W' g o x A n c :=
  ⟨h.cell (p := ⟨g, o, none⟩) (.inl hg) hx.1, h.cell (p := ⟨g, o + 1, none⟩) (.inl hg) hx.2.1, h.cell (p := ⟨g, o + 2, none⟩) (.inl hg) hx.2.2.1, h.cell (p := ⟨g, o + 3, none⟩) (.inl hg) hx.2.2.2⟩
theorem PtD.keepC {a b lo B : Nat} {W W' : World} (h : KeepC a b W W') (hB : B ≤ a) : ∀ {d : Nat} {A : Option Addr} {n : Nat} {xs : List Pt}, PtD W lo B d A n xs → PtD W' lo B d A n xs
  | 0, _, _, _, hx => hx
  | d + 1, A, n, xs, hx => ⟨hx.1, hx.2.1, fun hn => by
    obtain ⟨g, off, e, hl, hg, hc⟩ := hx.2.2 hn
    refine ⟨g, off, e, hl, hg, fun j x hj => ?_⟩
    obtain ⟨A', n', c', h1, h2, h3, h4⟩ := hc j x hj
    exact ⟨A', n', c', h1, h2.keepC h (by omega), h3, PtD.keepC h hB h4⟩⟩

/-- A node as a round is handed it. -/
structure Nd where
  k : Int
  m : Int
  t : ByteArray
  A : Option Addr
  n : Nat
  c : Nat
  ht : t.size ≤ maxLen
  hn : n ≤ maxLen
abbrev Nd.ag (y : Nd) : Value := .agg #[.int .i64 y.k, .int .i64 y.m, .string y.t, .slice y.A y.n y.c]
/-- What of it does not hang on where the Kids lie. -/
abbrev Core := Int × Int × ByteArray × Nat
def Nd.core (y : Nd) : Core := (y.k, y.m, y.t, y.n)
mutual
/-- The nodes, each one before its Kids. -/
def ptPre : Pt → List Core
  | .node k m t ks => (k, m, t, ks.length) :: ptPres ks
def ptPres : List Pt → List Core
  | [] => []
  | x :: xs => ptPre x ++ ptPres xs
end
/-- Those of the first k. -/
def preK (xs : List Pt) : Nat → List Core
  | 0 => []
  | k + 1 => preK xs k ++ ((xs[k]?.map ptPre).getD [])
theorem preK_next {xs : List Pt} {k : Nat} {x : Pt} (h : xs[k]? = some x) : preK xs (k + 1) = preK xs k ++ ptPre x := by
  rw [preK, h]
  rfl
theorem preK_cons (x : Pt) (xs : List Pt) : ∀ k, preK (x :: xs) (k + 1) = ptPre x ++ preK xs k
  | 0 => by simp [preK]
  | k + 1 => by
    have ih := preK_cons x xs k
    rw [preK, ih, preK]
    simp only [List.getElem?_cons_succ, List.append_assoc]
theorem ptPres_eq : ∀ (xs : List Pt), ptPres xs = preK xs xs.length
  | [] => by rw [ptPres]; rfl
  | x :: xs => by rw [ptPres, ptPres_eq xs, List.length_cons, preK_cons]
mutual
theorem len_pre : ∀ (x : Pt), (ptPre x).length = ptCnt x
  | .node k m t ks => by rw [ptPre, ptCnt, List.length_cons, len_pres ks]; omega
theorem len_pres : ∀ (xs : List Pt), (ptPres xs).length = ptCnts xs
  | [] => by rw [ptPres, ptCnts]; rfl
  | x :: xs => by rw [ptPres, ptCnts, List.length_append, len_pre x, len_pres xs]
end
theorem len_preK (xs : List Pt) : ∀ k, (preK xs k).length = pcntK xs k
  | 0 => rfl
  | k + 1 => by
    rw [preK, pcntK, List.length_append, len_preK xs k]
    cases xs[k]? with
    | none => rfl
    | some x => simp [len_pre]
theorem preK_prefix {xs : List Pt} {j : Nat} : ∀ {k : Nat}, j ≤ k → preK xs j <+: preK xs k
  | 0, h => by obtain rfl : j = 0 := by omega
               exact List.prefix_refl _
  | k + 1, h => by
    by_cases e : j = k + 1
    · rw [e]; exact List.prefix_refl _
    · exact (preK_prefix (xs := xs) (show j ≤ k by omega)).trans ⟨_, rfl⟩

/-- The contract of visitNodes at trees of depth at most d: the body keeps what is cells but for the blocks from a up to b. -/
def VisitAt (l a b n₀ N : Nat) (J Jx : List Nd → World → Prop) (d : Nat) : Prop :=
  ∀ (n' : Nat) (x : Pt) (A : Option Addr) (n c : Nat) (pre : List Nd) (W : World), x.t.size ≤ maxLen → PtD W 0 n₀ d A n x.kids → b ≤ W.heap.size → J pre W → pre.length + ptCnt x ≤ N →
    CallsIn Fence.wide n' Tryd.prog 69 #[x.ag A n c, .func (.yield l) #[] #[]] W fun e W' =>
      (e = .returned (.bool true) ∧ ∃ ys, ys.map Nd.core = ptPre x ∧ J (pre ++ ys) W' ∧ KeepC a b W W') ∨ (e = .returned (.bool false) ∧ ∃ ys, ys.map Nd.core <+: ptPre x ∧ Jx (pre ++ ys) W')

set_option maxRecDepth 100000 in
set_option maxHeartbeats 4000000 in
theorem visit_step (l a b n₀ N : Nat) (J Jx : List Nd → World → Prop) (hab : n₀ ≤ a) (hJa : ∀ pre W o, J pre W → J pre (W.alloc o))
    (hY : ∀ m pre (y : Nd) W, J pre W → pre.length < N → YieldAt Fence.wide m Tryd.prog l #[y.ag] W fun e W' => (e = .returned (.bool true) ∧ J (pre ++ [y]) W' ∧ KeepC a b W W') ∨ (e = .returned (.bool false) ∧ Jx (pre ++ [y]) W'))
    (d : Nat) (n' : Nat) (x : Pt) (A : Option Addr) (n c : Nat) (pre : List Nd) (W : World) (ih : 0 < n → VisitAt l a b n₀ N J Jx d) (ht : x.t.size ≤ maxLen) (hd : PtD W 0 n₀ (d + 1) A n x.kids) (hb : b ≤ W.heap.size) (hJ : J pre W) (hN : pre.length + ptCnt x ≤ N) :
    CallsIn Fence.wide n' Tryd.prog 69 #[x.ag A n c, .func (.yield l) #[] #[]] W fun e W' =>
      (e = .returned (.bool true) ∧ ∃ ys, ys.map Nd.core = ptPre x ∧ J (pre ++ ys) W' ∧ KeepC a b W W') ∨ (e = .returned (.bool false) ∧ ∃ ys, ys.map Nd.core <+: ptPre x ∧ Jx (pre ++ ys) W') := by
  obtain ⟨k, m, t, ks⟩ := x
  change t.size ≤ maxLen at ht
  change PtD W 0 n₀ (d + 1) A n ks at hd
  have hlen := hd.1
  have hnm := hd.2.1
  have hdd : ∀ q : Nat, (Fence.wide.depth.isSome = true → 1 ≤ q) := fun q h => by cases h
  have HPE : Hid (ptPre (.node k m t ks) = (k, m, t, n) :: preK ks n) := by show _ = _; rw [ptPre, ptPres_eq, hlen]
  rw [ptCnt, ptCnts_eq, hlen] at hN
  have HPF := HPE
  obtain ⟨PX, hPX⟩ : ∃ PX, ptPre (.node k m t ks) = PX := ⟨_, rfl⟩
  rw [hPX] at HPE ⊢
  have HX := Lib.hid hPX
  clear hPX HPF
  have HD := Lib.hid hd
  have HIH := Lib.hid ih
  have HJA := Lib.hid hJa
  have HNN := Lib.hid hN
  have HBB := Lib.hid hb
  have hK1 : KeepC a b W (W.alloc (.cells #[.int .i64 k, .int .i64 m, .string t, .slice A n c] 29)) := KeepC.alloc a b W _
  have hR1 : RW 29 (W.alloc (.cells #[.int .i64 k, .int .i64 m, .string t, .slice A n c] 29)) W.heap.size #[.int .i64 k, .int .i64 m, .string t, .slice A n c] := RW.new _ _ _
  obtain ⟨fn, tmps, assign, body, hy, hR⟩ := hY (n' - 1) pre ⟨k, m, t, A, n, c, ht, hnm⟩ _ (hJa _ _ (.cells #[.int .i64 k, .int .i64 m, .string t, .slice A n c] 29) hJ) (by omega)
  have HK1 := Lib.hid hK1
  have HR1 := Lib.hid hR1
  have HND : Hid (∃ y : Nd, y.core = (k, m, t, n) ∧ y = ⟨k, m, t, A, n, c, ht, hnm⟩) := ⟨_, rfl, rfl⟩
  obtain ⟨y0, hy0, hye⟩ := HND.out
  rw [← hye] at hR
  have HY0 := Lib.hid hy0
  unfold maxLen at hnm
  clear hJ hJa hd ih hK1 hR1 hY hN HND hye hy0
  show CallsIn Fence.wide n' Tryd.prog 69 #[.agg #[.int .i64 k, .int .i64 m, .string t, .slice A n c], .func (.yield l) #[] #[]] W _
  refine callsIn_of_wp Tryd.func69 rfl trivial ?_ rfl
  simp only [Tryd.ntmps69, List.size_toArray, List.length_cons, List.length_nil, Nat.reduceAdd, Nat.reduceSub, Array.replicate_succ, Array.replicate_zero, List.push_toArray, List.append_toArray, List.nil_append, List.cons_append]
  gi_wp2_with ((try refine ⟨hdd _, ?_⟩); refine hR.mono ?_; clear hR hy; rintro e W2 (⟨rfl, hJ2, hk2⟩ | ⟨rfl, hx2⟩); have r3 : W2.cell? ⟨W.heap.size, 3, none⟩ = some (.slice A n c) := hk2.cell (p := ⟨W.heap.size, 3, none⟩) (.inr HBB.out) (HR1.out.cell 3))
  · have HJ2 := Lib.hid hJ2
    have HK2 := Lib.hid (HK1.out.trans hk2)
    clear hJ2 hk2 r3
    gi_loopw [14] (fun i wr => ∃ (k' : Nat) (ys : List Nd), k' ≤ n ∧ i = .int .i64 k' ∧ Hid (ys.map Nd.core = preK ks k') ∧ Hid (J (pre ++ y0 :: ys) wr) ∧ Hid (KeepC a b W wr)) (fun i _ => n - (intOf i).toNat)
    case atStart => exact ⟨0, [], Nat.zero_le _, rfl, Lib.hid rfl, HJ2, HK2⟩
    case round =>
      obtain ⟨k', ys, hk, rfl, HM, HJ, HK⟩ := hrel
      by_cases hlt : k' < n
      · obtain ⟨g, off, y, A1, n1, c1, rfl, _, hgb, hy, _, hat, hys, hyk⟩ := (HD.out.keepC HK.out hab).at_ hlt
        obtain ⟨q0, q1, q2, q3⟩ := hat
        have HNX := Lib.hid (preK_next hy)
        have HPX := Lib.hid (preK_prefix (xs := ks) (show k' + 1 ≤ n by omega))
        have b0 : (0 : Int) ≤ (k' : Int) := by omega
        have b1 : (k' : Int) < (n : Int) := by omega
        have hcn : (pre ++ y0 :: ys).length + ptCnt y ≤ N := by
          have h1 := pcntK_mono (xs := ks) (show k' + 1 ≤ n by omega)
          have h2 := pcntK_next hy
          have h3 := congrArg List.length HM.out
          rw [List.length_map, len_preK] at h3
          have h4 := HNN.out
          simp only [List.length_append, List.length_cons]
          omega
        have HI := Lib.hid (fun X (hX : KeepC a b wr X) (hj : J (pre ++ y0 :: ys) X) => HIH.out (by omega) (n' - 1) y A1 n1 c1 (pre ++ y0 :: ys) X hys (hyk.keepC hX hab) (Nat.le_trans HBB.out (Nat.le_trans HK.out.1 hX.1)) hj hcn)
        obtain ⟨yk, yn, yt, yks⟩ := y
        change wr.cell? ⟨g, off + k' * 4, none⟩ = some (.int .i64 yk) at q0
        change wr.cell? ⟨g, off + k' * 4 + 1, none⟩ = some (.int .i64 yn) at q1
        change wr.cell? ⟨g, off + k' * 4 + 2, none⟩ = some (.string yt) at q2
        clear hy hys hyk hgb hcn
        gi_wp2_with (refine ⟨trivial, hdd _, ?_⟩; gi_at_call 69; refine (HI.out _ (KeepC.alloc a b wr _) (HJA.out _ _ _ HJ.out)).mono ?_; rintro e W3 (⟨rfl, zs, hz, hJ3, hk3⟩ | ⟨rfl, zs, hz, hx3⟩))
        · go_roundw
          case rel => exact ⟨k' + 1, ys ++ zs, by omega, by go_num, by show _ = _; rw [HNX.out, List.map_append, HM.out, hz], by show J _ _; rw [show pre ++ y0 :: (ys ++ zs) = (pre ++ y0 :: ys) ++ zs from by simp]; exact hJ3, Lib.hid (HK.out.trans ((KeepC.alloc a b wr _).trans hk3))⟩
          case measure => simp [intOf]; omega
        · go_ret
          refine .inr ⟨rfl, y0 :: (ys ++ zs), ?_, by rw [show pre ++ y0 :: (ys ++ zs) = (pre ++ y0 :: ys) ++ zs from by simp]; exact hx3⟩
          rw [HPE.out, List.map_cons, HY0.out, List.map_append, HM.out, List.prefix_cons_inj]
          refine (List.prefix_append_right_inj _ |>.2 hz).trans ?_
          rw [← HNX.out]
          exact HPX.out
      · have hkn : k' = n := by omega
        have HMN : Hid (ys.map Nd.core = preK ks n) := by rw [← hkn]; exact HM
        clear hkn HM
        gi_wp2
        go_ret
        exact .inl ⟨rfl, y0 :: ys, by rw [HPE.out, List.map_cons, HY0.out, HMN.out], HJ.out, HK.out⟩
  · go_ret
    exact .inr ⟨rfl, [y0], by rw [HPE.out, List.map_cons, HY0.out, List.map_nil]; exact ⟨preK ks n, rfl⟩, hx2⟩

theorem visit_all (l a b n₀ N : Nat) (J Jx : List Nd → World → Prop) (hab : n₀ ≤ a) (hJa : ∀ pre W o, J pre W → J pre (W.alloc o))
    (hY : ∀ m pre (y : Nd) W, J pre W → pre.length < N → YieldAt Fence.wide m Tryd.prog l #[y.ag] W fun e W' => (e = .returned (.bool true) ∧ J (pre ++ [y]) W' ∧ KeepC a b W W') ∨ (e = .returned (.bool false) ∧ Jx (pre ++ [y]) W')) :
    ∀ d, VisitAt l a b n₀ N J Jx d
  | 0 => fun n' x A n c pre W ht hd hb hJ hN => visit_step l a b n₀ N J Jx hab hJa hY 0 n' x A n c pre W (fun h => absurd h (by have := hd.2; omega)) ht hd.deeper hb hJ hN
  | d + 1 => fun n' x A n c pre W ht hd hb hJ hN => visit_step l a b n₀ N J Jx hab hJa hY d n' x A n c pre W (fun _ => visit_all l a b n₀ N J Jx hab hJa hY d) ht hd hb hJ hN

theorem room_any (k : Nat) : Fence.wide.room k := fun d h => by cases h
theorem roundAny {m m' : Nat} {P : Program} {l : Nat} {f : FuncId} {tmps : Array Value} {assign body : Code} {w : World} {R : Ending → World → Prop}
    (h : RoundIn Fence.wide m P l f tmps assign body w R) : RoundIn Fence.wide m' P l f tmps assign body w R := ⟨h.1, fun c cs _ => h.2 c cs (room_any _)⟩
theorem yieldAny {m : Nat} (m' : Nat) {P : Program} {l : Nat} {args : Array Value} {W : World} {R : Ending → World → Prop} (h : YieldAt Fence.wide m P l args W R) : YieldAt Fence.wide m' P l args W R := by
  obtain ⟨fn, tmps, assign, body, hy, hR⟩ := h
  exact ⟨fn, tmps, assign, body, hy, roundAny hR⟩

theorem patternNodes_any (n' : Nat) (x : Pt) (A : Option Addr) (n c : Nat) (w : World) :
    CallsIn Fence.wide n' Tryd.prog 43 #[x.ag A n c] w fun e w' => e = .returned (.func (.func 68) #[] #[.pointer (some ⟨w.heap.size, 0, none⟩)]) ∧ w' = w.alloc (.cells #[.int .i64 x.k, .int .i64 x.n, .string x.t, .slice A n c] 29) := by
  obtain ⟨k, m, t, ks⟩ := x
  show CallsIn Fence.wide n' Tryd.prog 43 #[.agg #[.int .i64 k, .int .i64 m, .string t, .slice A n c]] w _
  refine callsIn_of_wp Tryd.func43 rfl trivial ?_ rfl
  simp only [Tryd.ntmps43, List.size_toArray, List.length_cons, List.length_nil, Nat.reduceAdd, Nat.reduceSub, Array.replicate_succ, Array.replicate_zero, List.push_toArray, List.append_toArray, List.nil_append, List.cons_append]
  gi_wp2
  go_ret
  exact ⟨rfl, rfl⟩

set_option maxHeartbeats 1000000 in
/-- What patternNodes hands back is a walk over the nodes. -/
theorem nodes_stops (n' d a b n₀ Bt : Nat) (x : Pt) (A : Option Addr) (n c : Nat) (w : World) (hab : n₀ ≤ a) (hb : b ≤ w.heap.size) (hBt : RW 29 w Bt #[.int .i64 x.k, .int .i64 x.n, .string x.t, .slice A n c]) (ht : x.t.size ≤ maxLen) (hd : PtD w 0 n₀ d A n x.kids) (hn : n₀ ≤ w.heap.size) :
    SeqStopsK Fence.wide n' Tryd.prog 68 #[.pointer (some ⟨Bt, 0, none⟩)] (fun y : Nd => #[y.ag]) (KeepC a b) (fun ys => ys.map Nd.core = ptPre x) (fun ys => ys.map Nd.core <+: ptPre x) (ptCnt x) w := by
  intro l J Jx W hW hJ hJx hY h0
  have hdd : ∀ q : Nat, (Fence.wide.depth.isSome = true → 1 ≤ q) := fun q h => by cases h
  have hR := hBt.below hW hBt.lt
  have HP := Lib.hid (visit_all l a b n₀ (ptCnt x) J Jx hab (fun pre W' o hj => hJ pre W' _ none hj (World.grownBy_alloc W' o none) (fun r e => by cases e)) (fun m pre y W1 hj hl => yieldAny m (hY pre y W1 hj hl)) d (n' - 1) x A n c [] W ht ((hd.below (hW.mono hn))) (Nat.le_trans hb hW.size) h0 (by simp))
  obtain ⟨k, m, t, ks⟩ := x
  have r0 := hR.cell 0
  have r1 := hR.cell 1
  have r2 := hR.cell 2
  have r3 := hR.cell 3
  change W.cell? ⟨Bt, 0, none⟩ = some (.int .i64 k) at r0
  change W.cell? ⟨Bt, 1, none⟩ = some (.int .i64 m) at r1
  change W.cell? ⟨Bt, 2, none⟩ = some (.string t) at r2
  change W.cell? ⟨Bt, 3, none⟩ = some (.slice A n c) at r3
  clear hY h0 hJ hJx hd ht hBt hR hW
  show CallsIn Fence.wide n' Tryd.prog 68 #[.func (.yield l) #[] #[], .pointer (some ⟨Bt, 0, none⟩)] W _
  refine callsIn_of_wp Tryd.func68 rfl trivial ?_ rfl
  simp only [Tryd.ntmps68, List.size_toArray, List.length_cons, List.length_nil, Nat.reduceAdd, Nat.reduceSub, Array.replicate_succ, Array.replicate_zero, List.push_toArray, List.append_toArray, List.nil_append, List.cons_append]
  gi_wp2_with (refine ⟨trivial, hdd _, ?_⟩; gi_at_call 69; refine HP.out.mono ?_; rintro e W1 (⟨rfl, ys, hz, hJ1, hk1⟩ | ⟨rfl, ys, hz, hx1⟩))
  · go_end0
    exact ⟨⟨_, rfl⟩, .inl ⟨ys, hz, by simpa using hJ1⟩⟩
  · go_end0
    exact ⟨⟨_, rfl⟩, .inr ⟨ys, hz, by simpa using hx1⟩⟩
end Go.Proofs.YtjeiiljdhnmofaaDoor
