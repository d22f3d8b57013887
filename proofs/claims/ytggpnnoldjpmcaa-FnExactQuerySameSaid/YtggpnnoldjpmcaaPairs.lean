/- A map whose keys are pairs of pointers, made by the call: what it holds; no program. -/
import Derived.WalkKit
import Derived.Lib.Hide
import Derived.LaidEql
import Derived.Laws.StructEq
import Derived.Maps.Own
import Derived.Maps.OwnOps
namespace Go.Proofs.Ytggpnnoldjpmcaa
open Go.RowKit Go.MapKept

/-- A block of cells that is there, none of them frozen. -/
def Alive (w : World) (b : Nat) : Prop := ∃ c T f, w.heap[b]? = some (.cells c T f) ∧ ∀ o, w.frozen? ⟨b, o, none⟩ = false
theorem Alive.lt {w : World} {b : Nat} (h : Alive w b) : b < w.heap.size := by
  obtain ⟨c, T, f, h, _⟩ := h; exact (Array.getElem?_eq_some_iff.1 h).1
theorem Alive.of_block {w w' : World} {b : Nat} (h : Alive w b) (e : w'.heap[b]? = w.heap[b]?) : Alive w' b := by
  obtain ⟨c, T, f, h1, h2⟩ := h
  refine ⟨c, T, f, e.trans h1, fun o => ?_⟩
  rw [← h2 o]; unfold World.frozen?; simp only [e]
theorem Alive.of_cell {w : World} {b o : Nat} {x : Value} (h : w.cell? ⟨b, o, none⟩ = some x) (hf : ∀ o, w.frozen? ⟨b, o, none⟩ = false) : Alive w b := by
  unfold World.cell? at h
  cases hb : w.heap[b]? with
  | none => simp [hb] at h
  | some ob => cases ob <;> simp [hb] at h; exact ⟨_, _, _, hb, hf⟩
theorem Alive.below {B : Nat} {w w' : World} {b : Nat} (h : Alive w b) (hb : Below B w w') (hB : b < B) : Alive w' b := h.of_block (hb.block b hB)

theorem run_sameAddr_alive {P : Program} (w : World) {a b : Addr} (hne : a ≠ b) (ha : Alive w a.block) (hb : Alive w b.block) : (sameAddr a b).run P w = .ok false w := by
  by_cases hbl : a.block = b.block
  · simp [sameAddr, hbl, hne]
  · obtain ⟨ca, ta, fa, ha1, ha2⟩ := ha
    obtain ⟨cb, tb, fb, hb1, hb2⟩ := hb
    have fz : ∀ (x : Addr), (∀ o, w.frozen? ⟨x.block, o, none⟩ = false) → ∀ o s, w.frozen? ⟨x.block, o, s⟩ = false := fun x h o s => h o
    have fa' : ∀ o s, w.frozen? ⟨a.block, o, s⟩ = false := fun o s => ha2 o
    have fb' : ∀ o s, w.frozen? ⟨b.block, o, s⟩ = false := fun o s => hb2 o
    have fa0 : w.frozen? a = false := fa' a.off a.spot
    have fb0 : w.frozen? b = false := fb' b.off b.spot
    simp [sameAddr, hbl, fa0, fb0, noView, viewAt, World.shape?, mayBeOne, stringish, ha1, hb1, fa', fb']
theorem run_sameAddr_dec {P : Program} (w : World) {a b : Addr} (ha : Alive w a.block) (hb : Alive w b.block) : (sameAddr a b).run P w = .ok (decide (a = b)) w := by
  by_cases h : a = b
  · subst h; simp [run_sameAddr_same]
  · simp [h, run_sameAddr_alive w h ha hb]

/-- What the laws need of the type of a pair of pointers. -/
structure PairTy (P : Program) (k p q : TypeId) : Prop where
  und : P.underlying k = some (.struct (P.fieldsOf k))
  ptr : P.underlying p = some (.pointer q)
  fields : (P.fieldsOf k).toList.map (fun f => (f.name == "_", f.type, f.offset)) = [(false, p, 0), (false, p, 1)]
  info : (P.info? q).isSome = true
  size : P.cellsOf q ≠ 0
  stood : P.stoodInHeld k = false

/-- Two addresses of the same part of two trees. -/
abbrev Pa := Addr × Addr
def pairV (x : Pa) : Value := .agg #[.pointer (some x.1), .pointer (some x.2)]
def PAlive (w : World) (x : Pa) : Prop := Alive w x.1.block ∧ Alive w x.2.block
theorem PAlive.of_block {w w' : World} {x : Pa} (h : PAlive w x) (e : ∀ b, Alive w b → w'.heap[b]? = w.heap[b]?) : PAlive w' x := ⟨h.1.of_block (e _ h.1), h.2.of_block (e _ h.2)⟩

section
variable {P : Program} {k p q : TypeId}
theorem PairTy.two (T : PairTy P k p q) : ∃ f g, (P.fieldsOf k).toList = [f, g] ∧ f.name ≠ "_" ∧ g.name ≠ "_" ∧ f.type = p ∧ g.type = p ∧ f.offset = 0 ∧ g.offset = 1 := by
  have h := T.fields
  match hl : (P.fieldsOf k).toList, h with
  | [f, g], h =>
    simp at h
    exact ⟨f, g, rfl, h.1.1, h.2.1, h.1.2.1, h.2.2.1, h.1.2.2, h.2.2.2⟩
  | [], h => simp at h
  | [_], h => simp at h
  | _ :: _ :: _ :: _, h => simp at h
theorem run_part_ptr (T : PairTy P k p q) (w : World) {xs : Array Value} {off : Nat} {v : Value} (hx : xs[off]? = some v) : (part p xs off).run P w = .ok v w := by
  simp [part, isAgg, run_underlying T.ptr, hx]
theorem run_equalIn_ptr (T : PairTy P k p q) (w : World) (d : Nat) {a b : Addr} (ha : Alive w a.block) (hb : Alive w b.block) :
    (Op.equalIn (d + 1) p (.pointer (some a)) (.pointer (some b))).run P w = .ok (decide (a = b)) w := by
  obtain ⟨i, hi⟩ := Option.isSome_iff_exists.1 T.info
  have hs := T.size
  have hz : i.size ≠ 0 := by simpa [Program.cellsOf, hi] using hs
  simp [Op.equalIn, run_underlying T.ptr, sizeOf, typeInfo, hi, hz, run_sameAddr_dec w ha hb]
theorem run_equal_pair (T : PairTy P k p q) (w : World) {x y : Pa} (hx : PAlive w x) (hy : PAlive w y) : (Op.equal k (pairV x) (pairV y)).run P w = .ok (decide (x = y)) w := by
  obtain ⟨f, g, hl, f1, g1, f2, g2, f3, g3⟩ := T.two
  unfold Op.equal Op.maxDepth pairV
  rw [show (10000 : Nat) = 9998 + 1 + 1 from rfl, run_equalIn_struct w _ k _ _ T.und T.stood, hl]
  obtain ⟨x1, x2⟩ := x
  obtain ⟨y1, y2⟩ := y
  have p1 := fun (xs : Array Value) (off : Nat) (v : Value) (h : xs[off]? = some v) => run_part_ptr T w h
  have e1 := run_equalIn_ptr T w 9998 hx.1 hy.1
  have e2 := run_equalIn_ptr T w 9998 hx.2 hy.2
  have q1 := p1 #[.pointer (some x1), .pointer (some x2)] 0 _ rfl
  have q2 := p1 #[.pointer (some x1), .pointer (some x2)] 1 _ rfl
  have q3 := p1 #[.pointer (some y1), .pointer (some y2)] 0 _ rfl
  have q4 := p1 #[.pointer (some y1), .pointer (some y2)] 1 _ rfl
  simp only at e1 e2
  by_cases h1 : x1 = y1
  · by_cases h2 : x2 = y2
    · subst h1 h2
      simp at e1 e2
      simp [Op.eqFields, f1, g1, f2, g2, f3, g3, q3, q4, e1, e2, Result.andThen]
    · have e2' : (Op.equalIn (9998 + 1) p (.pointer (some x2)) (.pointer (some y2))).run P w = .ok false w := by rw [e2]; simp [h2]
      have e1' : (Op.equalIn (9998 + 1) p (.pointer (some x1)) (.pointer (some y1))).run P w = .ok true w := by rw [e1]; simp [h1]
      simp [Op.eqFields, f1, g1, f2, g2, f3, g3, q1, q2, q3, q4, e1', e2', Result.andThen, h2]
  · have e1' : (Op.equalIn (9998 + 1) p (.pointer (some x1)) (.pointer (some y1))).run P w = .ok false w := by rw [e1]; simp [h1]
    simp [Op.eqFields, f1, g1, f2, g2, f3, g3, q1, q3, e1', Result.andThen, h1]
theorem run_checkKey_pair (T : PairTy P k p q) (w : World) (em : Bool) (x : Pa) : (Instr.checkKey em 10000 k (pairV x)).run P w = .ok () w := by
  obtain ⟨f, g, hl, f1, g1, f2, g2, f3, g3⟩ := T.two
  have q1 := run_part_ptr T w (xs := #[.pointer (some x.1), .pointer (some x.2)]) (off := 0) rfl
  have q2 := run_part_ptr T w (xs := #[.pointer (some x.1), .pointer (some x.2)]) (off := 1) rfl
  have c1 : ∀ a, (Instr.checkKey em 9999 p (.pointer (some a))).run P w = .ok () w := fun a => by
    rw [show (9999 : Nat) = 9998 + 1 from rfl]; unfold Instr.checkKey; simp [run_underlying T.ptr]
  rw [show (10000 : Nat) = 9999 + 1 from rfl]
  unfold Instr.checkKey pairV
  simp only [Sem.run_bind, run_underlying T.und, Result.andThen_ok]
  rw [← Array.forIn_toList, hl]
  simp [f1, g1, f2, g2, f3, g3, q1, q2, c1, Result.andThen]

theorem findNow_struct (fs : Array Field) (x : Value) (l : List MapEntry) (i : Nat) (h : l ≠ []) : Instr.findNow (.struct fs) x l i = none := by
  cases l with
  | nil => exact absurd rfl h
  | cons e l => simp [Instr.findNow, Instr.sameNow]
/-- Entries at pairs, each with true. -/
def PEnts (w : World) (es : List MapEntry) (S : List Pa) : Prop := (∀ e ∈ es, ∃ y ∈ S, e.key = pairV y ∧ e.val = .bool true) ∧ ∀ y ∈ S, PAlive w y ∧ ∃ e ∈ es, e.key = pairV y
theorem run_findAsking (T : PairTy P k p q) (w : World) {x : Pa} (hx : PAlive w x) (S : List Pa) : ∀ (es : List MapEntry) (i : Nat), (∀ e ∈ es, ∃ y ∈ S, e.key = pairV y ∧ e.val = .bool true) → (∀ y ∈ S, PAlive w y) →
    ((Instr.findAsking k (pairV x) es i).run P w = .ok none w ∧ ∀ e ∈ es, e.key ≠ pairV x) ∨ ((∃ j, (Instr.findAsking k (pairV x) es i).run P w = .ok (some (j, .bool true)) w) ∧ ∃ e ∈ es, e.key = pairV x)
  | [], i, _, _ => .inl ⟨rfl, by simp⟩
  | e :: es, i, h, hS => by
    obtain ⟨y, hy, ek, ev⟩ := h e (by simp)
    have he := run_equal_pair T w hx (hS y hy)
    unfold Instr.findAsking
    rw [ek, ev]
    by_cases hxy : x = y
    · refine .inr ⟨⟨i, ?_⟩, e, by simp, by rw [ek, hxy]⟩
      simp [hxy] at he
      simp [hxy, he, Result.andThen]
    · have he' : (Op.equal k (pairV x) (pairV y)).run P w = .ok false w := by rw [he]; simp [hxy]
      have hne : e.key ≠ pairV x := by
        rw [ek]; intro h0; apply hxy
        obtain ⟨x1, x2⟩ := x; obtain ⟨y1, y2⟩ := y
        simp [pairV] at h0
        rw [h0.1, h0.2]
      rcases run_findAsking T w hx S es (i + 1) (fun e he => h e (by simp [he])) hS with ⟨h1, h2⟩ | ⟨⟨j, h1⟩, e', h2, h3⟩
      · refine .inl ⟨?_, ?_⟩
        · simp [he', h1, Result.andThen]
        · intro e' he'
          rcases List.mem_cons.1 he' with rfl | he'
          · exact hne
          · exact h2 e' he'
      · refine .inr ⟨⟨j, ?_⟩, e', by simp [h2], h3⟩
        simp [he', h1, Result.andThen]
theorem run_findKey_pair (T : PairTy P k p q) (w : World) {x : Pa} (hx : PAlive w x) {S : List Pa} {es : List MapEntry} (h : PEnts w es S) :
    ((Instr.findKey k (pairV x) es).run P w = .ok none w ∧ x ∉ S) ∨ ((∃ j, (Instr.findKey k (pairV x) es).run P w = .ok (some (j, .bool true)) w) ∧ x ∈ S) := by
  have hin : x ∈ S ↔ ∃ e ∈ es, e.key = pairV x := by
    constructor
    · intro hx; exact (h.2 x hx).2
    · rintro ⟨e, he, ek⟩
      obtain ⟨y, hy, ek', _⟩ := h.1 e he
      have : x = y := by
        obtain ⟨x1, x2⟩ := x; obtain ⟨y1, y2⟩ := y
        rw [ek] at ek'; simp [pairV] at ek'
        rw [ek'.1, ek'.2]
      rw [this]; exact hy
  cases es with
  | nil =>
    refine .inl ⟨?_, fun hx => by obtain ⟨e, he, _⟩ := hin.1 hx; simp at he⟩
    simp [Instr.findKey, run_underlying T.und, Instr.findNow, Result.andThen]
  | cons e es =>
    have hn := findNow_struct (P.fieldsOf k) (pairV x) (e :: es) 0 (by simp)
    have hr : (Instr.findKey k (pairV x) (e :: es)).run P w = (Instr.findAsking k (pairV x) (e :: es)).run P w := by
      simp [Instr.findKey, run_underlying T.und, hn, Result.andThen]
    rcases run_findAsking T w hx S (e :: es) 0 h.1 (fun y hy => (h.2 y hy).1) with ⟨h1, h2⟩ | ⟨⟨j, h1⟩, h2⟩
    · exact .inl ⟨hr.trans h1, fun hx => by obtain ⟨e', he', ek⟩ := hin.1 hx; exact h2 e' he' ek⟩
    · exact .inr ⟨⟨j, hr.trans h1⟩, hin.2 h2⟩

/-- Block b is a map with the pairs S, each true. -/
def Seen (w : World) (b : Nat) (S : List Pa) : Prop := ∃ es clock, w.heap[b]? = some (.map es clock) ∧ PEnts w es.toList S
theorem Seen.lt {w : World} {b : Nat} {S : List Pa} (h : Seen w b S) : b < w.heap.size := by
  obtain ⟨es, c, h, _⟩ := h; exact (Array.getElem?_eq_some_iff.1 h).1
theorem Seen.made (w : World) : Seen (w.alloc (.map #[] 0)) w.heap.size [] := ⟨#[], 0, (MapKept.heap_alloc w _).1, by simp [PEnts]⟩
theorem Seen.alive {w : World} {b : Nat} {S : List Pa} (h : Seen w b S) : ∀ y ∈ S, PAlive w y := by
  obtain ⟨es, c, _, h⟩ := h; exact fun y hy => (h.2 y hy).1
theorem Seen.of_blocks {w w' : World} {b : Nat} {S : List Pa} (h : Seen w b S) (hb : w'.heap[b]? = w.heap[b]?) (ha : ∀ y ∈ S, PAlive w' y) : Seen w' b S := by
  obtain ⟨es, c, h, h1, h2⟩ := h
  exact ⟨es, c, hb.trans h, h1, fun y hy => ⟨ha y hy, (h2 y hy).2⟩⟩
theorem run_lookup_seen (T : PairTy P k p q) {t e : TypeId} (ht : P.underlying t = some (.map k e)) (hz : ∀ w, (zeroValue e).run P w = .ok (.bool false) w) {w : World} {b : Nat} {S : List Pa} (h : Seen w b S) {x : Pa} (hx : PAlive w x) :
    (Instr.lookup t (.map (some b)) (pairV x) false).run P w = .ok (.bool (decide (x ∈ S))) w := by
  obtain ⟨es, c, hb, hE⟩ := h
  have hc := run_checkKey_pair T w es.isEmpty x
  rcases run_findKey_pair T w hx hE with ⟨h1, h2⟩ | ⟨⟨j, h1⟩, h2⟩
  · simp [Instr.lookup, run_underlying ht, MapKept.run_getObj_map hb, hc, h1, h2, hz, Result.andThen]
  · simp [Instr.lookup, run_underlying ht, MapKept.run_getObj_map hb, hc, h1, h2, Result.andThen]
theorem run_update_seen (T : PairTy P k p q) {t e : TypeId} (ht : P.underlying t = some (.map k e)) {w : World} {b : Nat} {S : List Pa} (h : Seen w b S) {x : Pa} (hx : PAlive w x) (hn : x ∉ S) :
    ∃ o, (Instr.mapUpdate t (.map (some b)) (pairV x) (.bool true)).run P w = .ok () { w with heap := w.heap.setIfInBounds b o } ∧ Seen { w with heap := w.heap.setIfInBounds b o } b (x :: S) := by
  obtain ⟨es, c, hb, hE⟩ := h
  have hc := run_checkKey_pair T w false x
  rcases run_findKey_pair T w hx hE with ⟨h1, h2⟩ | ⟨⟨j, h1⟩, h2⟩
  · refine ⟨.map (es.push { key := pairV x, val := .bool true, born := c }) (c + 1), ?_, ?_⟩
    · simp [Instr.mapUpdate, run_underlying ht, MapKept.run_getObj_map hb, hc, h1, MapKept.run_setObj_map _ hb, Result.andThen]
    · have hal : ∀ y, PAlive w y → PAlive { w with heap := w.heap.setIfInBounds b (.map (es.push { key := pairV x, val := .bool true, born := c }) (c + 1)) } y := fun y hy => by
        refine hy.of_block fun g hg => (heap_set hb).2 g ?_
        rintro rfl
        obtain ⟨c', T', f', h', _⟩ := hg
        rw [hb] at h'; cases h'
      refine ⟨_, _, (heap_set hb).1, ?_, ?_⟩
      · intro e' he'
        simp only [Array.toList_push, List.mem_append, List.mem_singleton] at he'
        rcases he' with he' | rfl
        · obtain ⟨y, hy, h3⟩ := hE.1 e' he'
          exact ⟨y, by simp [hy], h3⟩
        · exact ⟨x, by simp, rfl, rfl⟩
      · intro y hy
        rcases List.mem_cons.1 hy with rfl | hy
        · exact ⟨hal _ hx, { key := pairV y, val := .bool true, born := c }, by simp, rfl⟩
        · obtain ⟨h3, e', h4, h5⟩ := hE.2 y hy
          exact ⟨hal _ h3, e', by simp [h4], h5⟩
  · exact absurd h2 hn
end

theorem wpList_lookup_seen {P : Program} {k p q : TypeId} (T : PairTy P k p q) (w : World) {ops : Array Oper} {rest : List Oper} {o : Oper} {a : Act} {Q : Exit → Act → World → Prop}
    (hg : o.guard = none) (m y : Operand) (t e : TypeId) (hop : o.op = Op.lookup t m y false) (ht : P.underlying t = some (.map k e)) (hz : ∀ w, (zeroValue e).run P w = .ok (.bool false) w)
    (b : Nat) (S : List Pa) (hm : a.eval m = .map (some b)) (h : Seen w b S) (x : Pa) (hy : a.eval y = pairV x) (hx : PAlive w x)
    (hK : wpList P ops Q rest (a.put o.dst (.bool (decide (x ∈ S)))) w) : wpList P ops Q (o :: rest) a w := by
  refine wpList_plain hg fun K' hK' => ?_
  have hrun := run_lookup_seen T ht hz h hx
  unfold Oper.wp
  simp [execOp, hop, hm, hy, hrun, Result.andThen]
  exact hK' _ _ hK
theorem wpList_update_seen {P : Program} {k p q : TypeId} (T : PairTy P k p q) (w : World) {ops : Array Oper} {rest : List Oper} {o : Oper} {a : Act} {Q : Exit → Act → World → Prop}
    (hg : o.guard = none) (m y v : Operand) (t e : TypeId) (hop : o.op = Op.mapUpdate t m y v) (ht : P.underlying t = some (.map k e))
    (b : Nat) (S : List Pa) (hm : a.eval m = .map (some b)) (h : Seen w b S) (x : Pa) (hy : a.eval y = pairV x) (hv : a.eval v = .bool true) (hx : PAlive w x) (hn : x ∉ S)
    (hK : ∀ w', Seen w' b (x :: S) → w.grownBy w' (some b) → w'.heap.size = w.heap.size → wpList P ops Q rest (a.put o.dst undef) w') : wpList P ops Q (o :: rest) a w := by
  refine wpList_plain hg fun K' hK' => ?_
  have hb : ∃ es c, w.heap[b]? = some (.map es c) := by obtain ⟨es, c, hb, _⟩ := h; exact ⟨es, c, hb⟩
  obtain ⟨es, c, hb⟩ := hb
  obtain ⟨ob, hrun, hs⟩ := run_update_seen T ht h hx hn
  unfold Oper.wp
  simp [execOp, hop, hm, hy, hv, hrun, Result.andThen]
  exact hK' _ _ (hK _ hs ⟨rfl, rfl, rfl, by simp, fun i _ hi => (heap_set hb).2 i (fun e => hi (by rw [e]))⟩ (by simp))
end Go.Proofs.Ytggpnnoldjpmcaa
