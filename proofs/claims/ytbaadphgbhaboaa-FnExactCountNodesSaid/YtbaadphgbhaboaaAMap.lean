/- Maps that the call makes, keyed by structs: their entries as they lie, in order. No condition. -/
import Derived.Test.YtbaadphgbhaboaaRw
import Derived.Maps.OwnSet
import Derived.LaidEql
import Derived.Laws.StructEq
namespace Go.Proofs.Ytbaadphgbhaboaa
open Go Go.RowKit

/-- Block b is a map with these entries. -/
def AMap (w : World) (b : Nat) (kvs : List (Value × Value)) : Prop := ∃ es clock, w.heap[b]? = some (.map es clock) ∧ es.toList.map (fun e => (e.key, e.val)) = kvs
/-- The value at a key: that of the first entry that has it. -/
noncomputable def getA (kvs : List (Value × Value)) (k : Value) : Option Value := (kvs.find? fun p => tt (p.1 = k)).map (·.2)
/-- The value at a key replaced. -/
noncomputable def setA (kvs : List (Value × Value)) (k v : Value) : List (Value × Value) :=
  match kvs with
  | [] => []
  | p :: r => if tt (p.1 = k) then (k, v) :: r else p :: setA r k v

section
variable {P : Program} {w : World}

theorem AMap.made (w : World) : AMap (w.alloc (.map #[] 0)) w.heap.size [] := ⟨#[], 0, (MapKept.heap_alloc w _).1, rfl⟩
theorem AMap.lt {b : Nat} {kvs : List (Value × Value)} (h : AMap w b kvs) : b < w.heap.size := by
  obtain ⟨es, clock, hb, _⟩ := h
  exact (Array.getElem?_eq_some_iff.1 hb).1
theorem AMap.kept {w' : World} {b : Nat} {kvs : List (Value × Value)} {row : Option Nat} (h : AMap w b kvs) (hg : w.grownBy w' row) (hne : some b ≠ row) : AMap w' b kvs := by
  have hlt := h.lt
  obtain ⟨es, clock, hb, e⟩ := h
  exact ⟨es, clock, (hg.block b hlt hne).trans hb, e⟩
theorem AMap.below {w' : World} {b B : Nat} {kvs : List (Value × Value)} (h : AMap w b kvs) (hb : Below B w w') (hg : b < B) : AMap w' b kvs := by
  obtain ⟨es, clock, h1, e⟩ := h
  exact ⟨es, clock, (hb.block b hg).trans h1, e⟩
theorem AMap.ne_row {b g : Nat} {kvs : List (Value × Value)} {T : TypeId} {cs : Array Value} (h : AMap w b kvs) (hr : RW T w g cs) : b ≠ g := by
  rintro rfl
  obtain ⟨es, clock, h1, _⟩ := h
  unfold RW at hr
  rw [hr] at h1
  cases h1

theorem run_findAsking {kt : TypeId} {key : Value} : ∀ (es : List MapEntry) (i : Nat), (∀ e ∈ es, (Op.equal kt key e.key).run P w = .ok (tt (e.key = key)) w) →
    ((Instr.findAsking kt key es i).run P w = .ok none w ∧ getA (es.map fun e => (e.key, e.val)) key = none) ∨
    ∃ j e, (Instr.findAsking kt key es i).run P w = .ok (some (i + j, e.val)) w ∧ es[j]? = some e ∧ e.key = key ∧ getA (es.map fun e => (e.key, e.val)) key = some e.val ∧
      ∀ v, (es.modify j (fun e => { e with key := key, val := v })).map (fun e => (e.key, e.val)) = setA (es.map fun e => (e.key, e.val)) key v
  | [], i, _ => .inl ⟨by simp [Instr.findAsking], rfl⟩
  | e :: es, i, h => by
    have h0 := h e (by simp)
    by_cases hk : e.key = key
    · refine .inr ⟨0, e, ?_, rfl, hk, ?_, fun v => ?_⟩
      · rw [tt_true hk] at h0
        simp [Instr.findAsking, h0, Result.andThen]
      · simp [getA, tt_true hk]
      · simp [setA, tt_true hk]
    · rw [tt_false hk] at h0
      rcases run_findAsking es (i + 1) (fun x hx => h x (by simp [hx])) with ⟨h1, h2⟩ | ⟨j, e', h1, h2, h3, h4, h5⟩
      · refine .inl ⟨by simp [Instr.findAsking, h0, Result.andThen, h1], ?_⟩
        simp only [getA, List.map_cons, List.find?_cons, tt_false hk]
        exact h2
      · refine .inr ⟨j + 1, e', ?_, by simpa using h2, h3, ?_, fun v => ?_⟩
        · rw [show i + (j + 1) = i + 1 + j from by omega]
          simp [Instr.findAsking, h0, Result.andThen, h1]
        · simp only [getA, List.map_cons, List.find?_cons, tt_false hk]
          exact h4
        · simp only [List.modify_succ_cons, List.map_cons, setA, tt_false hk, Bool.false_eq_true, if_false]
          rw [h5 v]

theorem run_findKeyA {kt : TypeId} {fs : Array Field} (hk : P.underlying kt = some (.struct fs)) {key : Value} (es : List MapEntry) (h : ∀ e ∈ es, (Op.equal kt key e.key).run P w = .ok (tt (e.key = key)) w) :
    ((Instr.findKey kt key es).run P w = .ok none w ∧ getA (es.map fun e => (e.key, e.val)) key = none) ∨
    ∃ j e, (Instr.findKey kt key es).run P w = .ok (some (j, e.val)) w ∧ es[j]? = some e ∧ e.key = key ∧ getA (es.map fun e => (e.key, e.val)) key = some e.val ∧
      ∀ v, (es.modify j (fun e => { e with key := key, val := v })).map (fun e => (e.key, e.val)) = setA (es.map fun e => (e.key, e.val)) key v := by
  have e1 : (Instr.findKey kt key es).run P w = (Instr.findAsking kt key es 0).run P w := by
    cases es with
    | nil => simp [Instr.findKey, run_underlying hk, Result.andThen, Instr.findNow, Instr.findAsking]
    | cons x r => simp [Instr.findKey, run_underlying hk, Result.andThen, Instr.findNow, Instr.sameNow]
  rw [e1]
  rcases run_findAsking es 0 h with h | ⟨j, e, h1, h⟩
  · exact .inl h
  · exact .inr ⟨j, e, by rw [Nat.zero_add] at h1; exact h1, h⟩

variable {t kt et : TypeId} {fs : Array Field} {b : Nat} {kvs : List (Value × Value)} {key : Value}

theorem AMap.look (h : AMap w b kvs) (ht : P.underlying t = some (.map kt et)) (hk : P.underlying kt = some (.struct fs)) {z : Value} (hz : (zeroValue et).run P w = .ok z w) (hc : ∀ em, (Instr.checkKey em 10000 kt key).run P w = .ok () w)
    (he : ∀ p ∈ kvs, (Op.equal kt key p.1).run P w = .ok (tt (p.1 = key)) w) :
    (Instr.lookup t (.map (some b)) key false).run P w = .ok ((getA kvs key).getD z) w ∧ (Instr.lookup t (.map (some b)) key true).run P w = .ok (.tuple #[(getA kvs key).getD z, .bool (getA kvs key).isSome]) w := by
  obtain ⟨es, clock, hb, rfl⟩ := h
  rcases run_findKeyA hk es.toList (fun e hm => he (e.key, e.val) (List.mem_map.2 ⟨e, hm, rfl⟩)) with ⟨h1, h2⟩ | ⟨j, e, h1, _, _, h2, _⟩
  · rw [h2]
    exact ⟨by simp [Instr.lookup, run_underlying ht, MapKept.run_getObj_map hb, hc, h1, hz, Result.andThen], by simp [Instr.lookup, run_underlying ht, MapKept.run_getObj_map hb, hc, h1, hz, Result.andThen]⟩
  · rw [h2]
    exact ⟨by simp [Instr.lookup, run_underlying ht, MapKept.run_getObj_map hb, hc, h1, Result.andThen], by simp [Instr.lookup, run_underlying ht, MapKept.run_getObj_map hb, hc, h1, Result.andThen]⟩

theorem AMap.put (h : AMap w b kvs) (ht : P.underlying t = some (.map kt et)) (hk : P.underlying kt = some (.struct fs)) (hc : ∀ em, (Instr.checkKey em 10000 kt key).run P w = .ok () w)
    (he : ∀ p ∈ kvs, (Op.equal kt key p.1).run P w = .ok (tt (p.1 = key)) w) (hno : getA kvs key = none) (v : Value) :
    ∃ w', (Instr.mapUpdate t (.map (some b)) key v).run P w = .ok () w' ∧ AMap w' b (kvs ++ [(key, v)]) ∧ w.grownBy w' (some b) ∧ w'.heap.size = w.heap.size := by
  obtain ⟨es, clock, hb, rfl⟩ := h
  rcases run_findKeyA hk es.toList (fun e hm => he (e.key, e.val) (List.mem_map.2 ⟨e, hm, rfl⟩)) with ⟨h1, _⟩ | ⟨j, e, _, _, _, h2, _⟩
  · refine ⟨ChangeMaps.setBlock w b (.map (es.push ⟨key, v, clock⟩) (clock + 1)), ?_, ⟨_, _, ChangeMaps.heap_setBlock_same hb _, by simp⟩, ⟨rfl, rfl, rfl, by simp [ChangeMaps.setBlock], fun i _ hi => ChangeMaps.heap_setBlock_other hb _ (fun e => hi (by rw [e]))⟩, by simp [ChangeMaps.setBlock]⟩
    simp [Instr.mapUpdate, run_underlying ht, MapKept.run_getObj_map hb, hc, h1, MapKept.run_setObj_map _ hb, Result.andThen, ChangeMaps.setBlock]
  · rw [h2] at hno; cases hno

theorem AMap.set (h : AMap w b kvs) (ht : P.underlying t = some (.map kt et)) (hk : P.underlying kt = some (.struct fs)) (hc : ∀ em, (Instr.checkKey em 10000 kt key).run P w = .ok () w)
    (he : ∀ p ∈ kvs, (Op.equal kt key p.1).run P w = .ok (tt (p.1 = key)) w) (hs : Instr.sameBits 10000 key key = true) {v0 : Value} (hyes : getA kvs key = some v0) (v : Value) :
    ∃ w', (Instr.mapUpdate t (.map (some b)) key v).run P w = .ok () w' ∧ AMap w' b (setA kvs key v) ∧ w.grownBy w' (some b) ∧ w'.heap.size = w.heap.size := by
  obtain ⟨es, clock, hb, rfl⟩ := h
  rcases run_findKeyA hk es.toList (fun e hm => he (e.key, e.val) (List.mem_map.2 ⟨e, hm, rfl⟩)) with ⟨_, h2⟩ | ⟨j, e, h1, h2, h3, _, h5⟩
  · rw [h2] at hyes; cases hyes
  · have hj : es[j]? = some e := by simpa using h2
    refine ⟨ChangeMaps.setBlock w b (.map (es.modify j (fun e' => { e' with key := key, val := v })) clock), ?_, ⟨_, _, ChangeMaps.heap_setBlock_same hb _, by rw [Array.toList_modify]; exact h5 v⟩, ⟨rfl, rfl, rfl, by simp [ChangeMaps.setBlock], fun i _ hi => ChangeMaps.heap_setBlock_other hb _ (fun e => hi (by rw [e]))⟩, by simp [ChangeMaps.setBlock]⟩
    simp [Instr.mapUpdate, run_underlying ht, MapKept.run_getObj_map hb, hc, h1, hj, h3, Instr.keyThatStays, hs, MapKept.run_setObj_map _ hb, Result.andThen, ChangeMaps.setBlock]

/-- A block of cells, none frozen, whatever it holds. -/
def Good (w : World) (b : Nat) : Prop := ∃ cs T, w.heap[b]? = some (.cells cs T (0, 0))
theorem RW.good {T : TypeId} {g : Nat} {cs : Array Value} (h : RW T w g cs) : Good w g := ⟨cs, T, h⟩
theorem Good.below {w' : World} {b B : Nat} (h : Good w b) (hb : Below B w w') (hg : b < B) : Good w' b := by
  obtain ⟨cs, T, e⟩ := h
  exact ⟨cs, T, (hb.block b hg).trans e⟩
theorem Good.setCell {b : Nat} (h : Good w b) (q : Addr) (u : Value) : Good (w.setCell q u) b := by
  obtain ⟨cs, T, e⟩ := h
  obtain ⟨qb, qo, qs⟩ := q
  by_cases hq : qb = b
  · cases qs with
    | none => exact ⟨cs.setIfInBounds qo u, T, by simp [World.setCell, Array.getElem?_modify, e, hq]⟩
    | some s => exact ⟨cs, T, by simp [World.setCell, Array.getElem?_modify, e, hq]⟩
  · exact ⟨cs, T, by simp [World.setCell, Array.getElem?_modify, e, hq]⟩

theorem run_equalIn_ptr (d : Nat) {tp te : TypeId} {j : TypeInfo} {a c : Addr} (hp : P.underlying tp = some (.pointer te)) (hte : P.info? te = some j) (hsz : j.size ≠ 0) (ha : Good w a.block) (hb : Good w c.block) :
    (Op.equalIn (d + 1) tp (.pointer (some a)) (.pointer (some c))).run P w = .ok (tt (a = c)) w := by
  obtain ⟨ca, ta, ha⟩ := ha
  obtain ⟨cb, tb, hb⟩ := hb
  by_cases hne : a = c
  · subst hne
    simp [Op.equalIn, run_underlying hp, sizeOf, typeInfo, hte, hsz, run_sameAddr_same, tt_true]
  · simp [Op.equalIn, run_underlying hp, sizeOf, typeInfo, hte, hsz, run_sameAddr_other w hne ha hb, tt_false hne]

/-- A new block's cells, as an address and its steps. -/
theorem cells_new (w : World) (cs : Array Value) (t : TypeId) : ∀ j u, cs.toList[j]? = some u → (w.alloc (.cells cs t)).cell? ((⟨w.heap.size, 0, none⟩ : Addr).add j) = some u := by
  intro j u hj
  have hc := cell_of_row (w.alloc (.cells cs t)) w.heap.size j cs t (0, 0) (MapKept.heap_alloc w _).1
  have ha : (⟨w.heap.size, 0, none⟩ : Addr).add j = ⟨w.heap.size, j, none⟩ := by unfold Addr.add; split <;> simp_all
  rw [ha, hc, ← hj]
  simp
/-- Two structs of two fields. -/
theorem run_equal_two {K T0 T1 : TypeId} {n0 n1 : String} {u v u' v' : Value} {r0 r1 : Bool} (hk : P.underlying K = some (.struct (P.fieldsOf K))) (hst : P.stoodInHeld K = false) (hfs : (P.fieldsOf K).toList.map (fun f => (f.name, f.type, f.offset)) = [(n0, T0, 0), (n1, T1, 1)]) (hn0 : n0 ≠ "_") (hn1 : n1 ≠ "_")
    (hp0 : ∀ a b, (part T0 #[a, b] 0).run P w = .ok a w) (hp1 : ∀ a b, (part T1 #[a, b] 1).run P w = .ok b w) (e0 : (Op.equalIn 9999 T0 u u').run P w = .ok r0 w) (e1 : (Op.equalIn 9999 T1 v v').run P w = .ok r1 w) :
    (Op.equal K (.agg #[u, v]) (.agg #[u', v'])).run P w = .ok (r0 && r1) w := by
  unfold Op.equal Op.maxDepth
  rw [run_equalIn_struct w 9999 K _ _ hk hst]
  generalize (P.fieldsOf K).toList = fs at hfs
  have hl : fs.length = 2 := by have := congrArg List.length hfs; simpa using this
  match fs, hl with
  | [f0, f1], _ =>
    have h := hfs
    simp only [List.map_cons, List.map_nil, List.cons.injEq, Prod.mk.injEq, and_true] at h
    obtain ⟨⟨h1, h2, h3⟩, h4, h5, h6⟩ := h
    cases r0 <;> cases r1 <;> simp [Op.eqFields, h1, h2, h3, h4, h5, h6, hn0, hn1, hp0, hp1, e0, e1, Result.andThen]
/-- Two structs of three fields. -/
theorem run_equal_three {K T0 T1 T2 : TypeId} {n0 n1 n2 : String} {u v x u' v' x' : Value} {r0 r1 r2 : Bool} (hk : P.underlying K = some (.struct (P.fieldsOf K))) (hst : P.stoodInHeld K = false) (hfs : (P.fieldsOf K).toList.map (fun f => (f.name, f.type, f.offset)) = [(n0, T0, 0), (n1, T1, 1), (n2, T2, 2)]) (hn0 : n0 ≠ "_") (hn1 : n1 ≠ "_") (hn2 : n2 ≠ "_")
    (hp0 : ∀ a b c, (part T0 #[a, b, c] 0).run P w = .ok a w) (hp1 : ∀ a b c, (part T1 #[a, b, c] 1).run P w = .ok b w) (hp2 : ∀ a b c, (part T2 #[a, b, c] 2).run P w = .ok c w) (e0 : (Op.equalIn 9999 T0 u u').run P w = .ok r0 w) (e1 : (Op.equalIn 9999 T1 v v').run P w = .ok r1 w) (e2 : (Op.equalIn 9999 T2 x x').run P w = .ok r2 w) :
    (Op.equal K (.agg #[u, v, x]) (.agg #[u', v', x'])).run P w = .ok (r0 && (r1 && r2)) w := by
  unfold Op.equal Op.maxDepth
  rw [run_equalIn_struct w 9999 K _ _ hk hst]
  generalize (P.fieldsOf K).toList = fs at hfs
  have hl : fs.length = 3 := by have := congrArg List.length hfs; simpa using this
  match fs, hl with
  | [f0, f1, f2], _ =>
    have h := hfs
    simp only [List.map_cons, List.map_nil, List.cons.injEq, Prod.mk.injEq, and_true] at h
    obtain ⟨⟨h1, h2, h3⟩, ⟨h4, h5, h6⟩, h7, h8, h9⟩ := h
    cases r0 <;> cases r1 <;> cases r2 <;> simp [Op.eqFields, h1, h2, h3, h4, h5, h6, h7, h8, h9, hn0, hn1, hn2, hp0, hp1, hp2, e0, e1, e2, Result.andThen]
end

#print axioms AMap.look
#print axioms AMap.put
#print axioms AMap.set
#print axioms run_equalIn_ptr
end Go.Proofs.Ytbaadphgbhaboaa
