/- Lemmas on the data and the memory of this program's values: several texts in one. -/
import Derived.Test.YtghhabailgfelaaDoorPushN
import Derived.Test.YtghhabailgfelaaDoorSHolds
import Derived.Test.YtghhabailgfelaaDoorM4p1
import Derived.Test.YtghhabailgfelaaDoorFitsI
import Derived.Test.YtghhabailgfelaaDoorM0p2
import Derived.Test.YtghhabailgfelaaDoorM0p1
namespace Go.Proofs.YtghhabailgfelaaDoor
open Go.RowKit

def anyE : Ex := ⟨2, ⟨#[]⟩, .nil⟩
def notE (e : Ex) : Ex := ⟨3, ⟨#[]⟩, Fo.of [e]⟩
def twoE (o : Int) (e f : Ex) : Ex := ⟨o, ⟨#[]⟩, Fo.of [e, f]⟩
theorem anyE_in (B : Nat) (w : World) : anyE.At B w (.agg #[.int .i64 2, .string ⟨#[]⟩, .slice none 0 0]) := ⟨_, rfl, none, 0, rfl, Nat.le_refl _, Nat.zero_le _, .inl rfl⟩
theorem lv_empty {s : ByteArray} (h : s.size = 0) : lv s = false := by
  have hl : s.data.toList.length = 0 := h
  unfold lv lvL
  rw [hl]; rfl
theorem exV_any (kind : Int) (hk : kind = 1 ∨ kind = 2) : exV kind anyE = true := by
  rcases hk with rfl | rfl <;> decide
theorem nholds_any (n : Int) : nholds anyE n = nm n := by
  unfold nholds
  rw [exV_any 2 (.inr rfl), Ex.hold_any _ _ rfl]; simp
theorem lholds_any (s : ByteArray) : lholds anyE s = lv s := by
  unfold lholds
  rw [exV_any 1 (.inl rfl), Ex.hold_any _ _ rfl]
  by_cases h : s.size = 0
  · rw [lv_empty h]; simp [h]
  · unfold lbl; simp [h]
theorem Fo.okB_mono {kind : Int} {f : Fo} : ∀ {d d' : Nat}, f.okB kind d = true → d ≤ d' → f.okB kind d' = true := by
  induction f with
  | nil => intros; rfl
  | cons o a k r ihk ihr =>
    intro d d' h hl
    unfold Fo.okB at h ⊢
    simp only [Bool.and_eq_true, decide_eq_true_eq] at h ⊢
    exact ⟨⟨by omega, h.1.2.1, ihk h.1.2.2 (by omega)⟩, ihr h.2 hl⟩
theorem Ex.okB_mono {kind : Int} {e : Ex} {d d' : Nat} (h : e.okB kind d = true) (hl : d ≤ d') : e.okB kind d' = true := by
  unfold Ex.okB at h ⊢
  simp only [Bool.and_eq_true, decide_eq_true_eq] at h ⊢
  exact ⟨by omega, h.2.1, Fo.okB_mono h.2.2 (by omega)⟩
theorem exV_parts {kind : Int} {e : Ex} (h : exV kind e = true) : (kind = 1 ∨ kind = 2) ∧ e.okB kind 12 = true ∧ e.size ≤ 20 := by
  unfold exV at h
  simpa using h
theorem exV_mk {kind : Int} {e : Ex} (h1 : kind = 1 ∨ kind = 2) (h2 : e.okB kind 12 = true) (h3 : e.size ≤ 20) : exV kind e = true := by
  unfold exV
  simp [h1, h2, h3]
theorem exV_kid {kind : Int} {e : Ex} (h : exV kind e = true) (k : Nat) (hk : k < e.ks.list.length) : exV kind e.ks.list[k] = true := by
  obtain ⟨h1, h2, h3⟩ := exV_parts h
  obtain ⟨_, _, h4⟩ := Ex.okB_parts h2
  refine exV_mk h1 (Ex.okB_mono (h4 k hk) (by omega)) ?_
  have := e.ks.size_get k hk
  unfold Ex.size at *
  omega
theorem exV_not {kind : Int} {e : Ex} (h : exV kind (notE e) = true) : exV kind e = true := by
  have := exV_kid h 0 (by simp [notE, Fo.list_of])
  simpa [notE, Fo.list_of] using this
theorem exV_two {kind o : Int} {e f : Ex} (h : exV kind (twoE o e f) = true) : exV kind e = true ∧ exV kind f = true := by
  have h0 := exV_kid h 0 (by simp [twoE, Fo.list_of])
  have h1 := exV_kid h 1 (by simp [twoE, Fo.list_of])
  exact ⟨by simpa [twoE, Fo.list_of] using h0, by simpa [twoE, Fo.list_of] using h1⟩
theorem hold_notE (atom : ByteArray → Bool) (any : Bool) (e : Ex) : (notE e).hold atom any = !(e.hold atom any) := by
  rw [Ex.hold_not atom any (e := notE e) rfl (by simp [notE, Fo.list_of])]
  simp [notE, Fo.list_of]
theorem hold_andE (atom : ByteArray → Bool) (any : Bool) (e f : Ex) : (twoE 4 e f).hold atom any = (e.hold atom any && f.hold atom any) := by
  rw [Ex.hold_and atom any (e := twoE 4 e f) rfl (by simp [twoE, Fo.list_of])]
  simp [twoE, Fo.list_of]
theorem hold_orE (atom : ByteArray → Bool) (any : Bool) (e f : Ex) : (twoE 5 e f).hold atom any = (e.hold atom any || f.hold atom any) := by
  rw [Ex.hold_or atom any (e := twoE 5 e f) rfl (by simp [twoE, Fo.list_of])]
  simp [twoE, Fo.list_of]
theorem hold_push (atom : ByteArray → Bool) (any : Bool) {kind : Int} (d : Nat) : ∀ (e : Ex) (neg : Bool), e.okB kind d = true → (e.push neg).hold atom any = (if neg then !(e.hold atom any) else e.hold atom any) := by
  induction d with
  | zero => intro e neg h; unfold Ex.okB at h; simp at h
  | succ d ih =>
    intro e neg h
    obtain ⟨_, ht, hk⟩ := Ex.okB_parts h
    have two : (o4 : e.op = 4 ∨ e.op = 5) → (hl : e.ks.list.length = 2) → (e.push neg).hold atom any = (if neg then !(e.hold atom any) else e.hold atom any) := fun o4 hl => by
      rw [Ex.push_two neg o4 hl]
      have k0 := ih e.ks.list[0] neg (hk 0 (by omega))
      have k1 := ih e.ks.list[1] neg (hk 1 (by omega))
      rcases o4 with o4 | o4 <;> cases neg <;> simp only [o4, Bool.false_eq_true, if_false, if_true] at k0 k1 ⊢
      · rw [show (⟨4, ⟨#[]⟩, Fo.of [e.ks.list[0].push false, e.ks.list[1].push false]⟩ : Ex) = twoE 4 _ _ from rfl, hold_andE, k0, k1, Ex.hold_and atom any o4 hl]
      · rw [show (⟨9 - 4, ⟨#[]⟩, Fo.of [e.ks.list[0].push true, e.ks.list[1].push true]⟩ : Ex) = twoE 5 _ _ from rfl, hold_orE, k0, k1, Ex.hold_and atom any o4 hl, Bool.not_and]
      · rw [show (⟨5, ⟨#[]⟩, Fo.of [e.ks.list[0].push false, e.ks.list[1].push false]⟩ : Ex) = twoE 5 _ _ from rfl, hold_orE, k0, k1, Ex.hold_or atom any o4 hl]
      · rw [show (⟨9 - 5, ⟨#[]⟩, Fo.of [e.ks.list[0].push true, e.ks.list[1].push true]⟩ : Ex) = twoE 4 _ _ from rfl, hold_andE, k0, k1, Ex.hold_or atom any o4 hl, Bool.not_or]
    have leaf : (o : e.op = 1 ∨ e.op = 2) → e.ks.list.length = 0 → (e.push neg).hold atom any = (if neg then !(e.hold atom any) else e.hold atom any) := fun o hl => by
      rw [Ex.push_leaf neg o]
      have hks : e.ks = .nil := Fo.list_nil (List.eq_nil_of_length_eq_zero hl)
      have he : (⟨e.op, e.a, .nil⟩ : Ex) = e := by cases e; simp at hks; subst hks; rfl
      unfold leafP
      cases neg
      · simp only [Bool.false_eq_true, if_false, he]
      · simp only [if_true, he]; exact hold_notE atom any e
    rcases topB_cases ht with ⟨o, hl, _⟩ | ⟨o, hl⟩ | ⟨o, hl⟩ | ⟨o, hl⟩ | ⟨o, hl⟩
    · exact leaf (.inl o) hl
    · exact leaf (.inr o) hl
    · rw [Ex.push_not neg o hl, ih _ (!neg) (hk 0 (by omega)), Ex.hold_not atom any o hl]
      cases neg <;> simp
    · exact two (.inl o) hl
    · exact two (.inr o) hl
theorem pushOk_parts {kind : Int} {e : Ex} (h : pushOk kind e = true) : exV kind e = true ∧ exV kind (pushR kind e) = true ∧ pushR kind e = e.push false := by
  unfold pushOk at h
  simp only [Bool.and_eq_true] at h
  have := pushOk_yes h.1 h.2
  exact ⟨h.1, by rw [this.2]; exact h.2, this.2⟩
theorem lholds_push {e : Ex} {s : ByteArray} (h : pushOk 1 e = true) : lholds (pushR 1 e) s = lholds e s := by
  obtain ⟨h1, h2, h3⟩ := pushOk_parts h
  unfold lholds
  rw [h1, h2, h3, hold_push _ _ 12 e false (exV_parts h1).2.1]; simp
theorem nholds_push {e : Ex} {n : Int} (h : pushOk 2 e = true) : nholds (pushR 2 e) n = nholds e n := by
  obtain ⟨h1, h2, h3⟩ := pushOk_parts h
  unfold nholds
  rw [h1, h2, h3, hold_push _ _ 12 e false (exV_parts h1).2.1]; simp
theorem lholds_not {e : Ex} {s : ByteArray} (h : exV 1 (notE e) = true) (hl : lbl s = true) : lholds (notE e) s = !(lholds e s) := by
  unfold lholds
  rw [h, exV_not h, hl, hold_notE]; simp
theorem nholds_not {e : Ex} {n : Int} (h : exV 2 (notE e) = true) (hl : nm n = true) : nholds (notE e) n = !(nholds e n) := by
  unfold nholds
  rw [h, exV_not h, hl, hold_notE]; simp
theorem lholds_two {e f : Ex} {s : ByteArray} (h : exV 1 (twoE 4 e f) = true) (hl : lbl s = true) : lholds (twoE 4 e f) s = (lholds e s && lholds f s) ∧ lholds (twoE 5 e f) s = (lholds e s || lholds f s) := by
  have h5 : exV 1 (twoE 5 e f) = true := by
    obtain ⟨h1, h2, h3⟩ := exV_parts h
    refine exV_mk h1 ?_ h3
    unfold Ex.okB twoE at h2 ⊢
    simp only [Bool.and_eq_true, decide_eq_true_eq] at h2 ⊢
    refine ⟨h2.1, ?_, h2.2.2⟩
    have := h2.2.1
    unfold topB at this ⊢
    simpa using this
  obtain ⟨h1, h2⟩ := exV_two h
  unfold lholds
  rw [h, h5, h1, h2, hl, hold_andE, hold_orE]; simp
theorem nholds_and {e f : Ex} {n : Int} (h : exV 2 (twoE 4 e f) = true) : nholds (twoE 4 e f) n = (nholds e n && nholds f n) := by
  obtain ⟨h1, h2⟩ := exV_two h
  unfold nholds
  rw [h, h1, h2, hold_andE]
  cases nm n <;> simp
theorem nholds_morgan {e f : Ex} {n : Int} (h : exV 2 (notE (twoE 4 e f)) = true) (h' : exV 2 (twoE 5 (notE e) (notE f)) = true) : nholds (notE (twoE 4 e f)) n = nholds (twoE 5 (notE e) (notE f)) n := by
  unfold nholds
  rw [h, h', hold_notE, hold_andE, hold_orE, hold_notE, hold_notE, Bool.not_and]
theorem lholdsF {e : Ex} {s : ByteArray} (h : exV 1 e = false ∨ lbl s = false) : lholds e s = false := by
  unfold lholds
  rcases h with h | h <;> simp [h]
theorem nholdsF {e : Ex} {n : Int} (h : exV 2 e = false ∨ nm n = false) : nholds e n = false := by
  unfold nholds
  rcases h with h | h <;> simp [h]
theorem labelValid_b {s : ByteArray} {c : Bool} {w : World} (hs : s.size ≤ maxLen) (h : lv s = c) : Calls Tryd.prog 41 #[.string s] w fun e w' => e = .returned (.bool c) ∧ Below w.heap.size w w' :=
  (labelValid_any s w hs).mono fun _ _ h2 => ⟨h ▸ h2.1, by rw [← h2.2]; exact Below.refl _ _⟩
/-- Expressions that a law makes, in memory. -/
theorem notE_at {e : Ex} {k : Value} {B : Nat} {w : World} {T : TypeId} (h : e.ks.In B w k) (hB : B ≤ w.heap.size) :
    (notE e).At (w.heap.size + 1) (w.alloc (.cells #[.int .i64 e.op, .string e.a, k] T)) (.agg #[.int .i64 3, .string ⟨#[]⟩, .slice (some ⟨w.heap.size, 0, none⟩) 1 1]) := by
  have hb : Below w.heap.size w (w.alloc (.cells #[.int .i64 e.op, .string e.a, k] T)) := (Below.refl _ _).alloc (Nat.le_refl _) _
  refine ⟨_, rfl, _, 1, by simp [notE, Fo.list_of], by simp [notE, Fo.list_of], by decide, .inr ⟨w.heap.size, 0, rfl, by omega, ?_⟩⟩
  exact Fo.row_cons.2 ⟨cellsAt 0, cellsAt 1, ⟨k, cellsAt 2, h.below (hb.mono hB) (by omega)⟩, trivial⟩
theorem twoE_at {o : Int} {e f : Ex} {k l : Value} {B : Nat} {w : World} {T : TypeId} (h : e.ks.In B w k) (g : f.ks.In B w l) (hB : B ≤ w.heap.size) :
    (twoE o e f).At (w.heap.size + 1) (w.alloc (.cells #[.int .i64 e.op, .string e.a, k, .int .i64 f.op, .string f.a, l] T)) (.agg #[.int .i64 o, .string ⟨#[]⟩, .slice (some ⟨w.heap.size, 0, none⟩) 2 2]) := by
  have hb : Below w.heap.size w (w.alloc (.cells #[.int .i64 e.op, .string e.a, k, .int .i64 f.op, .string f.a, l] T)) := (Below.refl _ _).alloc (Nat.le_refl _) _
  refine ⟨_, rfl, _, 2, by simp [twoE, Fo.list_of], by simp [twoE, Fo.list_of], by decide, .inr ⟨w.heap.size, 0, rfl, by omega, ?_⟩⟩
  refine Fo.row_cons.2 ⟨cellsAt 0, cellsAt 1, ⟨k, cellsAt 2, h.below (hb.mono hB) (by omega)⟩, ?_⟩
  exact Fo.row_cons.2 ⟨cellsAt 3, cellsAt 4, ⟨l, cellsAt 5, g.below (hb.mono hB) (by omega)⟩, trivial⟩
theorem condB_size {a : ByteArray} (h : condB a = true) : 0 < a.size := by
  unfold condB at h
  cases hl : a.data.toList with
  | nil => rw [hl] at h; simp [condOf] at h
  | cons x l => have e : a.data.toList.length = a.size := rfl; rw [hl] at e; simp at e; omega
theorem txt_pos {kind : Int} {e : Ex} (h : exV kind e = true) : 0 < e.txt.size := by
  obtain ⟨hk, h2, _⟩ := exV_parts h
  obtain ⟨_, ht, _⟩ := Ex.okB_parts h2
  rcases topB_cases ht with ⟨o, hl, ha⟩ | ⟨o, hl⟩ | ⟨o, hl⟩ | ⟨o, hl⟩ | ⟨o, hl⟩
  · rw [Ex.txt_atom o]
    unfold atomB at ha
    split at ha
    · by_cases hz : e.a.size = 0
      · rw [lv_empty hz] at ha; cases ha
      · omega
    · exact condB_size ha
  · rw [Ex.txt_any o]; decide
  · rw [Ex.txt_not o hl, ByteArray.size_append]; have : (s1 33).size = 1 := rfl; omega
  · rw [Ex.txt_and o hl, ByteArray.size_append, ByteArray.size_append]; have : (s1 38).size = 1 := rfl; omega
  · rw [Ex.txt_or o hl, ByteArray.size_append, ByteArray.size_append]; have : (s1 124).size = 1 := rfl; omega
theorem Ex.At.row {e : Ex} {B : Nat} {w : World} {o a k : Value} (h : e.At B w (.agg #[o, a, k])) : e.ks.In B w k := by
  obtain ⟨k', h1, h2⟩ := h
  cases h1
  exact h2
def Ex.Sml (e : Ex) : Prop := e.a.size ≤ 1048576 ∧ e.ks.Sm
theorem anyE_sml : anyE.Sml := ⟨by decide, trivial⟩
theorem notE_sml {e : Ex} (h : e.Sml) : (notE e).Sml := ⟨by show (0 : Nat) ≤ _; omega, h.1, h.2, trivial⟩
theorem twoE_sml {o : Int} {e f : Ex} (h : e.Sml) (g : f.Sml) : (twoE o e f).Sml := ⟨by show (0 : Nat) ≤ _; omega, h.1, h.2, g.1, g.2, trivial⟩
end Go.Proofs.YtghhabailgfelaaDoor
namespace Go.Proofs.YtghhabailgfelaaDoor
open Go.RowKit

def hopB (node : Int) (e : El) (x : Ed) : Bool := follB node e.d x && elemF e x.l x.n
def hopsN (node : Int) (e : El) (es : List Ed) : Nat → List Hp
  | 0 => []
  | k + 1 => if (es[k]?.map (hopB node e)).getD false then hopsN node e es k ++ [⟨k, ((es[k]?.map (follT node e.d)).getD 0)⟩] else hopsN node e es k
theorem hopsN_yes {node : Int} {e : El} {es : List Ed} {k : Nat} (h : k < es.length) (hp : hopB node e es[k] = true) : hopsN node e es (k + 1) = hopsN node e es k ++ [⟨k, follT node e.d es[k]⟩] := by
  simp [hopsN, List.getElem?_eq_getElem h, hp]
theorem hopsN_no {node : Int} {e : El} {es : List Ed} {k : Nat} (h : k < es.length) (hp : hopB node e es[k] = false) : hopsN node e es (k + 1) = hopsN node e es k := by
  simp [hopsN, List.getElem?_eq_getElem h, hp]
theorem hopsN_le (node : Int) (e : El) (es : List Ed) : ∀ k, (hopsN node e es k).length ≤ k
  | 0 => Nat.le_refl _
  | k + 1 => by have := hopsN_le node e es k; unfold hopsN; split <;> simp <;> omega
def hopsR (g : Gr) (node : Int) (e : El) : List Hp := if gv g && (elemV e && !e.n) then hopsN node e g.es g.es.length else []
theorem gvh_len {g : Gr} (h : gv g = true) : g.es.length ≤ 14 := by
  unfold gv at h
  simp only [Bool.and_eq_true, decide_eq_true_eq] at h
  omega
theorem hopsR_len (g : Gr) (node : Int) (e : El) : (hopsR g node e).length ≤ 14 := by
  unfold hopsR
  split
  · rename_i h
    simp only [Bool.and_eq_true] at h
    have := gvh_len h.1; have := hopsN_le node e g.es g.es.length; omega
  · simp
theorem hopsR_no {g : Gr} {node : Int} {e : El} (h : (gv g && (elemV e && !e.n)) = false) : hopsR g node e = [] := by unfold hopsR; rw [h]; rfl
theorem hopsR_yes {g : Gr} {node : Int} {e : El} (h : (gv g && (elemV e && !e.n)) = true) : hopsR g node e = hopsN node e g.es g.es.length := by unfold hopsR; rw [h]; rfl
theorem infoHop : (Tryd.prog.info? 40).map (fun i => (i.zero, i.size, i.bytes)) = some (some (.agg #[.int .i64 0, .int .i64 0]), 2, 16) := by kernel_rfl
theorem hop_grown {w w' : World} (h : Below w.heap.size w w') : w.grownBy w' none := ⟨h.os, h.tape, h.output, h.size, fun k hk _ => h.block k hk⟩
theorem hop_kept {w w' : World} {base : Nat} {e : TypeId} {size : Nat} {v : Value} {n : Nat} {xs : List Value} (h : w.ownsRow base e size v n xs) (hb : Below w.heap.size w w') : w'.ownsRow base e size v n xs :=
  h.kept (hop_grown hb) (Classical.em _)
theorem hop_flat (xs : List Hp) (x : Hp) : flt Hp.cells (xs ++ [x]) = flt Hp.cells xs ++ [.int .i64 x.e, .int .i64 x.t] := by rw [flt_append]; simp [flt, Hp.cells]
theorem hop_own {w : World} {base : Nat} {e : TypeId} {v : Value} {xs : List Hp} (h : w.ownsRow base e 2 v xs.length (flt Hp.cells xs)) : ∃ F, OwnSl 2 Hp.cells w v xs F ∧ ∀ x ∈ F, base ≤ x := by
  obtain ⟨hl, h⟩ := h
  rcases h with ⟨rfl, h0⟩ | ⟨g, cap, cur, rfl, hb, hg, hn, hc, hs, ht⟩
  · exact ⟨[], ⟨none, 0, 0, rfl, h0.symm, Nat.le_refl _, Nat.zero_le _, .inl ⟨List.eq_nil_of_length_eq_zero h0, rfl⟩⟩, by simp⟩
  · refine ⟨[g], ⟨_, _, _, rfl, rfl, hn, hc, .inr ⟨g, 0, rfl, rfl, (Array.getElem?_eq_some_iff.1 hg).1, fun o => by simp [World.frozen?, hg], fun i hi j x hx => ?_⟩⟩, by simpa using hb⟩
    have e1 := flt_at (sz := 2) (fun _ => rfl) xs i hi j x hx
    have hj : j < 2 := (List.getElem?_eq_some_iff.1 hx).1
    have hle : i * 2 + 2 ≤ xs.length * 2 := by omega
    rw [← ht, List.getElem?_take_of_lt (by omega)] at e1
    simp only [World.cell?, hg, Nat.zero_add]
    rw [← e1]; simp
set_option maxRecDepth 100000 in
set_option maxHeartbeats 8000000 in
theorem hopsFrom_any (g : Gr) (e : El) (v u : Value) (node : Int) (B : Nat) (w : World) (hg : g.At B w v) (hu : e.At B w u) (hB : B ≤ w.heap.size) (hok : g.Ok) (hs : e.Sm) (hvars : Vars w) :
    Calls Tryd.prog 10 #[v, .int .i64 node, u] w fun en w' => ∃ v' F, en = .returned v' ∧ OwnSl 2 Hp.cells w' v' (hopsR g node e) F ∧ (∀ x ∈ F, w.heap.size ≤ x) ∧ Below w.heap.size w w' := by
  have HVV := Lib.hid hvars
  clear hvars
  have HG := Lib.hid hg
  have HU := Lib.hid hu
  have HS := Lib.hid hs
  have HOK := Lib.hid hok
  obtain ⟨va, vb, rfl, hns, hes⟩ := hg
  obtain ⟨pa, ca, rfl⟩ := hns.form
  obtain ⟨pb, cb, rfl⟩ := hes.form
  have hm2 := hes.max
  unfold maxLen at hm2
  have HES := Lib.hid hes
  obtain ⟨p, cap, p', cap', rfl, _, _⟩ := hu.form
  clear hu hs hok hns hes
  obtain ⟨i0, hi, hzz0, hzz1, hzz2⟩ := info_parts infoHop
  obtain ⟨W0, eW⟩ : ∃ W0, W0 = (w.alloc (.cells #[.slice pa g.ns.length ca, .slice pb g.es.length cb] 26)).alloc (.cells #[.bool e.n, .string e.v, .int .i64 e.l.op, .string e.l.a, .slice p e.l.ks.list.length cap, .int .i64 e.c.op, .string e.c.a, .slice p' e.c.ks.list.length cap', .int .i64 e.d] 31) := ⟨_, rfl⟩
  have HV := Lib.hid (show Below w.heap.size w W0 by rw [eW]; exact ((Below.refl w.heap.size w).alloc (by simp) _).alloc (by simp) _)
  have hs0 : w.heap.size + 2 ≤ W0.heap.size := by rw [eW]; simp
  have HK := Lib.hid (show ∀ wk, Below (w.heap.size + 2) W0 wk → w.heap.size + 2 ≤ wk.heap.size ∧ wk.cell? ⟨w.heap.size, 0, none⟩ = some (.slice pa g.ns.length ca) ∧ wk.cell? ⟨w.heap.size, 1, none⟩ = some (.slice pb g.es.length cb) ∧ wk.cell? ⟨w.heap.size + 1, 0, none⟩ = some (.bool e.n) ∧ wk.cell? ⟨w.heap.size + 1, 1, none⟩ = some (.string e.v) ∧ wk.cell? ⟨w.heap.size + 1, 2, none⟩ = some (.int .i64 e.l.op) ∧ wk.cell? ⟨w.heap.size + 1, 3, none⟩ = some (.string e.l.a) ∧ wk.cell? ⟨w.heap.size + 1, 4, none⟩ = some (.slice p e.l.ks.list.length cap) ∧ wk.cell? ⟨w.heap.size + 1, 5, none⟩ = some (.int .i64 e.c.op) ∧ wk.cell? ⟨w.heap.size + 1, 6, none⟩ = some (.string e.c.a) ∧ wk.cell? ⟨w.heap.size + 1, 7, none⟩ = some (.slice p' e.c.ks.list.length cap') ∧ wk.cell? ⟨w.heap.size + 1, 8, none⟩ = some (.int .i64 e.d) from
    fun wk hk => by rw [eW] at hk; exact ⟨by have := hk.size; simp at this; omega, keepc hk (by omega) (by simp [go_sem]), keepc hk (by omega) (by simp [go_sem]), keepc hk (by omega) (by simp [go_sem]), keepc hk (by omega) (by simp [go_sem]), keepc hk (by omega) (by simp [go_sem]), keepc hk (by omega) (by simp [go_sem]), keepc hk (by omega) (by simp [go_sem]), keepc hk (by omega) (by simp [go_sem]), keepc hk (by omega) (by simp [go_sem]), keepc hk (by omega) (by simp [go_sem]), keepc hk (by omega) (by simp [go_sem])⟩)
  have HA := Lib.hid (Below.refl (w.heap.size + 2) W0)
  have HBK := Lib.hid (show ∀ wk, Below (w.heap.size + 2) W0 wk → Below B w wk from fun wk hk => (HV.out.trans (hk.mono (by omega))).mono hB)
  have HEA := Lib.hid (show ∀ wk, Below (w.heap.size + 2) W0 wk → e.At B wk (.agg #[.bool e.n, .string e.v, .int .i64 e.l.op, .string e.l.a, .slice p e.l.ks.list.length cap, .int .i64 e.c.op, .string e.c.a, .slice p' e.c.ks.list.length cap', .int .i64 e.d]) from fun wk hk => HU.out.below (HBK.out wk hk) (Nat.le_refl _))
  have HGA := Lib.hid (show ∀ wk, Below (w.heap.size + 2) W0 wk → g.At B wk (.agg #[.slice pa g.ns.length ca, .slice pb g.es.length cb]) from fun wk hk => HG.out.below (HBK.out wk hk))
  have HVA := Lib.hid (show ∀ wk, Below (w.heap.size + 2) W0 wk → Vars wk from fun wk hk => HVV.out.below (HV.out.trans (hk.mono (by omega))))
  have EW := Lib.hid eW
  clear eW
  go_enter Tryd.func10, Tryd.ntmps10
  go_wp2_with fail
  rw [← EW.out]
  have HNIL := Lib.hid (show ∀ wk, OwnSl 2 Hp.cells wk (.slice none 0 0) [] [] from fun wk => ⟨none, 0, 0, rfl, rfl, Nat.le_refl _, Nat.zero_le _, .inl ⟨rfl, rfl⟩⟩)
  refine (graphValid_any g _ B _ (HGA.out _ HA.out) (by omega) HOK.out).mono ?_
  rintro en w1 ⟨rfl, hb1⟩
  have HA := Lib.hid (HA.out.trans (hb1.mono (by omega)))
  clear hb1
  obtain ⟨hz, a0, a1, c0, c1, c2, c3, c4, c5, c6, c7, c8⟩ := HK.out _ HA.out
  cases hgv : gv g with
  | false =>
    have HE := Lib.hid (hopsR_no (node := node) (show (gv g && (elemV e && !e.n)) = false by rw [hgv]; rfl))
    clear hgv
    go_wp2_with fail
    go_ret
    exact ⟨_, [], rfl, by rw [HE.out]; exact HNIL.out _, by simp, HV.out.trans (HA.out.mono (by omega))⟩
  | true =>
  have HGV := Lib.hid hgv
  have h14 := gvh_len hgv
  clear hgv
  go_wp2_with fail
  refine (elemValid_any e _ B _ (HEA.out _ HA.out) (by omega) HS.out (HVA.out _ HA.out)).mono ?_
  rintro en w2 ⟨rfl, hb2⟩
  have HA := Lib.hid (HA.out.trans (hb2.mono (by omega)))
  clear hb2
  clear hz a0 a1 c0 c1 c2 c3 c4 c5 c6 c7 c8
  obtain ⟨hz, a0, a1, c0, c1, c2, c3, c4, c5, c6, c7, c8⟩ := HK.out _ HA.out
  cases hev : elemV e with
  | false =>
    have HE := Lib.hid (hopsR_no (node := node) (show (gv g && (elemV e && !e.n)) = false by rw [hev]; simp))
    clear hev
    go_wp2_with fail
    go_ret
    exact ⟨_, [], rfl, by rw [HE.out]; exact HNIL.out _, by simp, HV.out.trans (HA.out.mono (by omega))⟩
  | true =>
  cases hen : e.n with
  | true =>
    have HE := Lib.hid (hopsR_no (node := node) (show (gv g && (elemV e && !e.n)) = false by rw [hen]; simp))
    clear hev
    rw [hen] at c0
    clear hen
    go_wp2_with fail
    go_ret
    exact ⟨_, [], rfl, by rw [HE.out]; exact HNIL.out _, by simp, HV.out.trans (HA.out.mono (by omega))⟩
  | false =>
  have HE := Lib.hid (hopsR_yes (node := node) (show (gv g && (elemV e && !e.n)) = true by rw [HGV.out, hev, hen]; rfl))
  have HEN := Lib.hid hen
  rw [hen] at c0
  clear hev hen
  have hmz := hz
  go_wp2_with fail
  clear hz hmz a0 a1 c0 c1 c2 c3 c4 c5 c6 c7 c8
  go_loopw [7, 27] (fun fnd i wr => ∃ k : Nat, k ≤ g.es.length ∧ i = .int .i64 k ∧ wr.ownsRow (w.heap.size + 2) 40 2 fnd (hopsN node e g.es k).length (flt Hp.cells (hopsN node e g.es k)) ∧ Below (w.heap.size + 2) W0 wr) (fun _ i _ => g.es.length - (intOf i).toNat)
  case atStart => exact ⟨0, Nat.zero_le _, rfl, World.ownsRow_nil _ _ _ _, HA.out⟩
  case round =>
    obtain ⟨k, hk, rfl, hown, hbw⟩ := hrel
    have HA := Lib.hid hbw
    have HO := Lib.hid hown
    have hpl := hopsN_le node e g.es k
    clear hbw hown
    obtain ⟨hz, a0, a1, c0, c1, c2, c3, c4, c5, c6, c7, c8⟩ := HK.out _ HA.out
    by_cases hlt : k < g.es.length
    · obtain ⟨b, off, rfl, hbb, x0, x1, x2, x3⟩ := (HES.out.below (HBK.out _ HA.out)).ed hlt
      have hyes := Lib.hid (fun h => hopsN_yes (node := node) (e := e) hlt h)
      have hno := Lib.hid (fun h => hopsN_no (node := node) (e := e) hlt h)
      have HP := Lib.hid (pv_parts (gv_ed HGV.out hlt))
      obtain ⟨x, ex⟩ : ∃ x, x = g.es[k] := ⟨_, rfl⟩
      rw [← ex] at x0 x1 x2 x3 hyes hno HP
      clear ex
      have hq1 : w.heap.size < wr.heap.size := by omega
      have hq2 : w.heap.size + 1 < wr.heap.size := by omega
      go_wp2_with fail
      refine (followEdge_any x node e.d _).mono ?_
      rintro en w3 ⟨rfl, hb3⟩
      have s3 : wr.heap.size < w3.heap.size := by have := hb3.size; simp at this; omega
      have y2 := new_cell hb3 (j := 2) rfl
      have y3 := new_cell hb3 (j := 3) rfl
      have HO3 := Lib.hid (hop_kept (HO.out.alloc _) hb3)
      have HA := Lib.hid (HA.out.trans ((below_past hb3).mono (by omega)))
      clear hb3
      clear hz a0 a1 c0 c1 c2 c3 c4 c5 c6 c7 c8
      clear x0 x1 x2 x3
      obtain ⟨hz, a0, a1, c0, c1, c2, c3, c4, c5, c6, c7, c8⟩ := HK.out _ HA.out
      cases hf : follB node e.d x with
      | false =>
        have HY := Lib.hid (hno.out (show hopB node e x = false by unfold hopB; rw [hf]; rfl))
        clear hyes hno hf
        go_wp2_with fail
        go_roundw
        case rel => exact ⟨k + 1, by omega, by go_num, by rw [HY.out]; exact HO3.out, HA.out⟩
        case measure => simp [intOf]; omega
      | true =>
        go_wp2_with fail
        refine (propsFit_any e _ x.l x.n B _ (HEA.out _ HA.out) (by omega) HS.out HP.out.2.2 (HVA.out _ HA.out)).mono ?_
        rintro en w4 ⟨rfl, hb4⟩
        have s4 := hb4.size
        have HO4 := Lib.hid (hop_kept HO3.out hb4)
        have HA := Lib.hid (HA.out.trans (hb4.mono (by omega)))
        clear hb4 y2 y3
        clear hz a0 a1 c0 c1 c2 c3 c4 c5 c6 c7 c8
        cases hp : elemF e x.l x.n with
        | false =>
          have HY := Lib.hid (hno.out (show hopB node e x = false by unfold hopB; rw [hp]; simp))
          clear hyes hno hf hp
          go_wp2_with fail
          go_roundw
          case rel => exact ⟨k + 1, by omega, by go_num, by rw [HY.out]; exact HO4.out, HA.out⟩
          case measure => simp [intOf]; omega
        | true =>
          have HY := Lib.hid (hyes.out (show hopB node e x = true by unfold hopB; rw [hf, hp]; rfl))
          clear hyes hno hf hp
          go_wp2_with (at_builtin; refine wpList_append_own _ rfl _ _ 34 rfl (w.heap.size + 2) 40 i0 (.agg #[.int .i64 0, .int .i64 0]) 2 16 Tryd.underlying34 hi hzz0 hzz1 hzz2 rfl (by decide) _ _ _ rfl (HO4.out.alloc _) ⟨w4.heap.size, 0, none⟩ 1 1 [.int .i64 k, .int .i64 (follT node e.d x)] rfl rfl ?c1 ?c2 ?c3 ?c4 ?c5 ?_)
          case c1 =>
            intro j u hj
            match j, hj with
            | 0, hj => simp at hj; subst hj; simp [Addr.add]
            | 1, hj => simp at hj; subst hj; simp [Addr.add]
          case c2 => intro u hu; simp at hu; rcases hu with rfl | rfl <;> rfl
          case c3 => unfold maxLen; omega
          case c4 => omega
          case c5 => simp; omega
          intro v' w5 hown5 hgrow _
          have HA5 := Lib.hid ((HA.out.alloc (by omega) (.cells #[.int .i64 (k : Int), .int .i64 (follT node e.d x)] 40)).grown hgrow (by simp; omega) (fun q hq => (HO4.out.lt q hq).1))
          have HO5 := Lib.hid (show w5.ownsRow (w.heap.size + 2) 40 2 v' (hopsN node e g.es (k + 1)).length (flt Hp.cells (hopsN node e g.es (k + 1))) by rw [HY.out, hop_flat]; simpa using hown5)
          clear hown5 hgrow
          go_wp2_with fail
          go_roundw
          case rel => exact ⟨k + 1, by omega, by go_num, HO5.out, HA5.out⟩
          case measure => simp [intOf]; omega
    · obtain rfl : k = g.es.length := by omega
      go_wp2_with fail
      go_ret
      obtain ⟨F, h1, h2⟩ := hop_own HO.out
      exact ⟨_, F, rfl, by rw [HE.out]; exact h1, fun x hx => by have := h2 x hx; omega, HV.out.trans (HA.out.mono (by omega))⟩
end Go.Proofs.YtghhabailgfelaaDoor
namespace Go.Proofs.YtghhabailgfelaaDoor
open Go.RowKit

theorem foll_1 {node d : Int} {x : Ed} (h1 : (d != 2) = true) (h2 : (x.f == node) = true) : follB node d x = true ∧ follT node d x = x.t := by unfold follB follT; rw [h1, h2]; exact ⟨rfl, rfl⟩
theorem foll_2 {node d : Int} {x : Ed} (h : (d != 2 && x.f == node) = false) (h3 : (d != 1) = true) (h4 : (x.t == node) = true) : follB node d x = true ∧ follT node d x = x.f := by unfold follB follT; rw [h, h3, h4]; exact ⟨rfl, rfl⟩
theorem foll_0 {node d : Int} {x : Ed} (h : (d != 2 && x.f == node) = false) (h' : (d != 1 && x.t == node) = false) : follB node d x = false := by unfold follB; rw [h, h']; rfl
theorem elemV_parts {e : El} (h : elemV e = true) : partV 1 e.l = true ∧ partV 2 e.c = true := by
  unfold elemV at h
  simp only [Bool.and_eq_true] at h
  exact ⟨h.2.2.1, h.2.2.2⟩
set_option maxRecDepth 100000 in
set_option maxHeartbeats 8000000 in
theorem l3Hops_any (g : Gr) (e : El) (v u : Value) (node : Int) (B : Nat) (w : World) (hg : g.At B w v) (hu : e.At B w u) (hB : B ≤ w.heap.size) (hok : g.Ok) (hs : e.Sm) (hgv : gv g = true) (hev : elemV e = true) :
    Calls Tryd.prog 32 #[v, .int .i64 node, u] w fun en w' => ∃ v' F, en = .returned v' ∧ OwnSl 2 Hp.cells w' v' (hopsN node e g.es g.es.length) F ∧ (∀ x ∈ F, w.heap.size ≤ x) ∧ Below w.heap.size w w' := by
  have HGV := Lib.hid hgv
  have h14 := gvh_len hgv
  have HPP := Lib.hid (elemV_parts hev)
  clear hgv hev
  have HG := Lib.hid hg
  have HU := Lib.hid hu
  have HS := Lib.hid hs
  have HOK := Lib.hid hok
  obtain ⟨va, vb, rfl, hns, hes⟩ := hg
  obtain ⟨pa, ca, rfl⟩ := hns.form
  obtain ⟨pb, cb, rfl⟩ := hes.form
  have hm2 := hes.max
  unfold maxLen at hm2
  have HES := Lib.hid hes
  obtain ⟨p, cap, p', cap', rfl, _, _⟩ := hu.form
  clear hu hs hok hns hes
  obtain ⟨i0, hi, hzz0, hzz1, hzz2⟩ := info_parts infoHop
  obtain ⟨W0, eW⟩ : ∃ W0, W0 = (w.alloc (.cells #[.slice pa g.ns.length ca, .slice pb g.es.length cb] 26)).alloc (.cells #[.bool e.n, .string e.v, .int .i64 e.l.op, .string e.l.a, .slice p e.l.ks.list.length cap, .int .i64 e.c.op, .string e.c.a, .slice p' e.c.ks.list.length cap', .int .i64 e.d] 31) := ⟨_, rfl⟩
  have HV := Lib.hid (show Below w.heap.size w W0 by rw [eW]; exact ((Below.refl w.heap.size w).alloc (by simp) _).alloc (by simp) _)
  have hs0 : w.heap.size + 2 ≤ W0.heap.size := by rw [eW]; simp
  have HK := Lib.hid (show ∀ wk, Below (w.heap.size + 2) W0 wk → w.heap.size + 2 ≤ wk.heap.size ∧ wk.cell? ⟨w.heap.size, 0, none⟩ = some (.slice pa g.ns.length ca) ∧ wk.cell? ⟨w.heap.size, 1, none⟩ = some (.slice pb g.es.length cb) ∧ wk.cell? ⟨w.heap.size + 1, 0, none⟩ = some (.bool e.n) ∧ wk.cell? ⟨w.heap.size + 1, 1, none⟩ = some (.string e.v) ∧ wk.cell? ⟨w.heap.size + 1, 2, none⟩ = some (.int .i64 e.l.op) ∧ wk.cell? ⟨w.heap.size + 1, 3, none⟩ = some (.string e.l.a) ∧ wk.cell? ⟨w.heap.size + 1, 4, none⟩ = some (.slice p e.l.ks.list.length cap) ∧ wk.cell? ⟨w.heap.size + 1, 5, none⟩ = some (.int .i64 e.c.op) ∧ wk.cell? ⟨w.heap.size + 1, 6, none⟩ = some (.string e.c.a) ∧ wk.cell? ⟨w.heap.size + 1, 7, none⟩ = some (.slice p' e.c.ks.list.length cap') ∧ wk.cell? ⟨w.heap.size + 1, 8, none⟩ = some (.int .i64 e.d) from
    fun wk hk => by rw [eW] at hk; exact ⟨by have := hk.size; simp at this; omega, keepc hk (by omega) (by simp [go_sem]), keepc hk (by omega) (by simp [go_sem]), keepc hk (by omega) (by simp [go_sem]), keepc hk (by omega) (by simp [go_sem]), keepc hk (by omega) (by simp [go_sem]), keepc hk (by omega) (by simp [go_sem]), keepc hk (by omega) (by simp [go_sem]), keepc hk (by omega) (by simp [go_sem]), keepc hk (by omega) (by simp [go_sem]), keepc hk (by omega) (by simp [go_sem]), keepc hk (by omega) (by simp [go_sem])⟩)
  have HA := Lib.hid (Below.refl (w.heap.size + 2) W0)
  have HBK := Lib.hid (show ∀ wk, Below (w.heap.size + 2) W0 wk → Below B w wk from fun wk hk => (HV.out.trans (hk.mono (by omega))).mono hB)
  have HEA := Lib.hid (show ∀ wk, Below (w.heap.size + 2) W0 wk → e.At B wk (.agg #[.bool e.n, .string e.v, .int .i64 e.l.op, .string e.l.a, .slice p e.l.ks.list.length cap, .int .i64 e.c.op, .string e.c.a, .slice p' e.c.ks.list.length cap', .int .i64 e.d]) from fun wk hk => HU.out.below (HBK.out wk hk) (Nat.le_refl _))
  have HGA := Lib.hid (show ∀ wk, Below (w.heap.size + 2) W0 wk → g.At B wk (.agg #[.slice pa g.ns.length ca, .slice pb g.es.length cb]) from fun wk hk => HG.out.below (HBK.out wk hk))
  have EW := Lib.hid eW
  clear eW
  have hz0 : w.heap.size + 2 ≤ W0.heap.size := hs0
  have hmade := Lib.hid (World.ownsRow_made (e := 40) (size := 2) (base := w.heap.size + 2) W0 #[] 0 hz0 (Nat.zero_le _) rfl)
  go_enter Tryd.func32, Tryd.ntmps32
  go_wp2_with fail
  try rw [← EW.out]
  go_loopw [7, 8] (fun fnd i wr => ∃ k : Nat, k ≤ g.es.length ∧ i = .int .i64 k ∧ wr.ownsRow (w.heap.size + 2) 40 2 fnd (hopsN node e g.es k).length (flt Hp.cells (hopsN node e g.es k)) ∧ Below (w.heap.size + 2) W0 wr) (fun _ i _ => g.es.length - (intOf i).toNat)
  case atStart => exact ⟨0, Nat.zero_le _, rfl, (by have h := hmade.out; rw [EW.out] at h ⊢; simpa [hopsN, flt] using h), HA.out.alloc hz0 _⟩
  case round =>
    obtain ⟨k, hk, rfl, hown, hbw⟩ := hrel
    have HA := Lib.hid hbw
    have HO := Lib.hid hown
    have hpl := hopsN_le node e g.es k
    clear hbw hown
    obtain ⟨hz, a0, a1, c0, c1, c2, c3, c4, c5, c6, c7, c8⟩ := HK.out _ HA.out
    by_cases hlt : k < g.es.length
    · obtain ⟨b, off, rfl, hbb, x0, x1, x2, x3⟩ := (HES.out.below (HBK.out _ HA.out)).ed hlt
      have hyes := Lib.hid (fun h => hopsN_yes (node := node) (e := e) hlt h)
      have hno := Lib.hid (fun h => hopsN_no (node := node) (e := e) hlt h)
      have HP := Lib.hid (pv_parts (gv_ed HGV.out hlt))
      obtain ⟨x, ex⟩ : ∃ x, x = g.es[k] := ⟨_, rfl⟩
      rw [← ex] at x0 x1 x2 x3 hyes hno HP
      clear ex
      have hq1 : w.heap.size < wr.heap.size := by omega
      have hq2 : w.heap.size + 1 < wr.heap.size := by omega
      go_wp2_with fail
      refine (l3Fits_any e _ x.l x.n B _ ((HEA.out _ HA.out).below ((Below.refl _ _).alloc (Nat.le_trans hB (by omega)) _) (Nat.le_refl _)) (by simp; omega) HS.out HPP.out.1 HPP.out.2 HP.out.1 HP.out.2.1).mono ?_
      rintro en w4 ⟨rfl, hb4⟩
      have s4 : wr.heap.size < w4.heap.size := by have := hb4.size; simp at this; omega
      have y0 := new_cell hb4 (j := 0) rfl
      have y1 := new_cell hb4 (j := 1) rfl
      have HO4 := Lib.hid (hop_kept (HO.out.alloc _) hb4)
      have HA := Lib.hid (HA.out.trans ((below_past hb4).mono (by omega)))
      clear hb4 x0 x1 x2 x3 hq1 hq2
      clear hz a0 a1 c0 c1 c2 c3 c4 c5 c6 c7 c8
      obtain ⟨hz, a0, a1, c0, c1, c2, c3, c4, c5, c6, c7, c8⟩ := HK.out _ HA.out
      have hq1 : w.heap.size < w4.heap.size := by omega
      have hq2 : w.heap.size + 1 < w4.heap.size := by omega
      cases hp : elemF e x.l x.n with
      | false =>
        have HY := Lib.hid (hno.out (show hopB node e x = false by unfold hopB; rw [hp]; simp))
        clear hyes hno hp
        go_wp2_with fail
        go_roundw
        case rel => exact ⟨k + 1, by omega, by go_num, by rw [HY.out]; exact HO4.out, HA.out⟩
        case measure => simp [intOf]; omega
      | true =>
        cases h1 : (e.d != 2) with
        | true =>
          cases h2 : (x.f == node) with
          | true =>
            have HY := Lib.hid (hyes.out (show hopB node e x = true by unfold hopB; rw [(foll_1 h1 h2).1, hp]; rfl))
            have HT := Lib.hid (foll_1 h1 h2).2
            clear hyes hno
            go_wp2_with (at_builtin; refine wpList_append_own _ rfl _ _ 34 rfl (w.heap.size + 2) 40 i0 (.agg #[.int .i64 0, .int .i64 0]) 2 16 Tryd.underlying34 hi hzz0 hzz1 hzz2 rfl (by decide) _ _ _ rfl (HO4.out.alloc _) ⟨w4.heap.size, 0, none⟩ 1 1 [.int .i64 k, .int .i64 x.t] rfl rfl ?c1 ?c2 ?c3 ?c4 ?c5 ?_)
            case c1 =>
              intro j u hj
              match j, hj with
              | 0, hj => simp at hj; subst hj; simp [Addr.add]
              | 1, hj => simp at hj; subst hj; simp [Addr.add]
            case c2 => intro u hu; simp at hu; rcases hu with rfl | rfl <;> rfl
            case c3 => unfold maxLen; omega
            case c4 => omega
            case c5 => simp; omega
            intro v' w5 hown5 hgrow _
            have HA5 := Lib.hid ((HA.out.alloc (by omega) (.cells #[.int .i64 (k : Int), .int .i64 x.t] 40)).grown hgrow (by simp; omega) (fun q hq => (HO4.out.lt q hq).1))
            have HO5 := Lib.hid (show w5.ownsRow (w.heap.size + 2) 40 2 v' (hopsN node e g.es (k + 1)).length (flt Hp.cells (hopsN node e g.es (k + 1))) by rw [HY.out, hop_flat, HT.out]; simpa using hown5)
            clear hown5 hgrow
            go_wp2_with fail
            go_roundw
            case rel => exact ⟨k + 1, by omega, by go_num, HO5.out, HA5.out⟩
            case measure => simp [intOf]; omega
          | false =>
            cases h3 : (e.d != 1) with
            | true =>
              cases h4 : (x.t == node) with
              | true =>
                have HY := Lib.hid (hyes.out (show hopB node e x = true by unfold hopB; rw [(foll_2 (by rw [h1, h2]; rfl) h3 h4).1, hp]; rfl))
                have HT := Lib.hid (foll_2 (by rw [h1, h2]; rfl) h3 h4).2
                clear hyes hno
                go_wp2_with (at_builtin; refine wpList_append_own _ rfl _ _ 34 rfl (w.heap.size + 2) 40 i0 (.agg #[.int .i64 0, .int .i64 0]) 2 16 Tryd.underlying34 hi hzz0 hzz1 hzz2 rfl (by decide) _ _ _ rfl (HO4.out.alloc _) ⟨w4.heap.size, 0, none⟩ 1 1 [.int .i64 k, .int .i64 x.f] rfl rfl ?c1 ?c2 ?c3 ?c4 ?c5 ?_)
                case c1 =>
                  intro j u hj
                  match j, hj with
                  | 0, hj => simp at hj; subst hj; simp [Addr.add]
                  | 1, hj => simp at hj; subst hj; simp [Addr.add]
                case c2 => intro u hu; simp at hu; rcases hu with rfl | rfl <;> rfl
                case c3 => unfold maxLen; omega
                case c4 => omega
                case c5 => simp; omega
                intro v' w5 hown5 hgrow _
                have HA5 := Lib.hid ((HA.out.alloc (by omega) (.cells #[.int .i64 (k : Int), .int .i64 x.f] 40)).grown hgrow (by simp; omega) (fun q hq => (HO4.out.lt q hq).1))
                have HO5 := Lib.hid (show w5.ownsRow (w.heap.size + 2) 40 2 v' (hopsN node e g.es (k + 1)).length (flt Hp.cells (hopsN node e g.es (k + 1))) by rw [HY.out, hop_flat, HT.out]; simpa using hown5)
                clear hown5 hgrow
                go_wp2_with fail
                go_roundw
                case rel => exact ⟨k + 1, by omega, by go_num, HO5.out, HA5.out⟩
                case measure => simp [intOf]; omega
              | false =>
                have HY := Lib.hid (hno.out (show hopB node e x = false by unfold hopB; rw [foll_0 (by rw [h1, h2]; rfl) (by rw [h3, h4]; rfl)]; rfl))
                clear hyes hno
                go_wp2_with fail
                go_roundw
                case rel => exact ⟨k + 1, by omega, by go_num, by rw [HY.out]; exact HO4.out, HA.out⟩
                case measure => simp [intOf]; omega
            | false =>
              have HY := Lib.hid (hno.out (show hopB node e x = false by unfold hopB; rw [foll_0 (by rw [h1, h2]; rfl) (by rw [h3]; rfl)]; rfl))
              clear hyes hno
              go_wp2_with fail
              go_roundw
              case rel => exact ⟨k + 1, by omega, by go_num, by rw [HY.out]; exact HO4.out, HA.out⟩
              case measure => simp [intOf]; omega
        | false =>
          cases h3 : (e.d != 1) with
          | true =>
            cases h4 : (x.t == node) with
            | true =>
              have HY := Lib.hid (hyes.out (show hopB node e x = true by unfold hopB; rw [(foll_2 (by rw [h1]; rfl) h3 h4).1, hp]; rfl))
              have HT := Lib.hid (foll_2 (by rw [h1]; rfl) h3 h4).2
              clear hyes hno
              go_wp2_with (at_builtin; refine wpList_append_own _ rfl _ _ 34 rfl (w.heap.size + 2) 40 i0 (.agg #[.int .i64 0, .int .i64 0]) 2 16 Tryd.underlying34 hi hzz0 hzz1 hzz2 rfl (by decide) _ _ _ rfl (HO4.out.alloc _) ⟨w4.heap.size, 0, none⟩ 1 1 [.int .i64 k, .int .i64 x.f] rfl rfl ?c1 ?c2 ?c3 ?c4 ?c5 ?_)
              case c1 =>
                intro j u hj
                match j, hj with
                | 0, hj => simp at hj; subst hj; simp [Addr.add]
                | 1, hj => simp at hj; subst hj; simp [Addr.add]
              case c2 => intro u hu; simp at hu; rcases hu with rfl | rfl <;> rfl
              case c3 => unfold maxLen; omega
              case c4 => omega
              case c5 => simp; omega
              intro v' w5 hown5 hgrow _
              have HA5 := Lib.hid ((HA.out.alloc (by omega) (.cells #[.int .i64 (k : Int), .int .i64 x.f] 40)).grown hgrow (by simp; omega) (fun q hq => (HO4.out.lt q hq).1))
              have HO5 := Lib.hid (show w5.ownsRow (w.heap.size + 2) 40 2 v' (hopsN node e g.es (k + 1)).length (flt Hp.cells (hopsN node e g.es (k + 1))) by rw [HY.out, hop_flat, HT.out]; simpa using hown5)
              clear hown5 hgrow
              go_wp2_with fail
              go_roundw
              case rel => exact ⟨k + 1, by omega, by go_num, HO5.out, HA5.out⟩
              case measure => simp [intOf]; omega
            | false =>
              have HY := Lib.hid (hno.out (show hopB node e x = false by unfold hopB; rw [foll_0 (by rw [h1]; rfl) (by rw [h3, h4]; rfl)]; rfl))
              clear hyes hno
              go_wp2_with fail
              go_roundw
              case rel => exact ⟨k + 1, by omega, by go_num, by rw [HY.out]; exact HO4.out, HA.out⟩
              case measure => simp [intOf]; omega
          | false =>
            have HY := Lib.hid (hno.out (show hopB node e x = false by unfold hopB; rw [foll_0 (by rw [h1]; rfl) (by rw [h3]; rfl)]; rfl))
            clear hyes hno
            go_wp2_with fail
            go_roundw
            case rel => exact ⟨k + 1, by omega, by go_num, by rw [HY.out]; exact HO4.out, HA.out⟩
            case measure => simp [intOf]; omega
    · obtain rfl : k = g.es.length := by omega
      go_wp2_with fail
      go_ret
      obtain ⟨F, h1, h2⟩ := hop_own HO.out
      exact ⟨_, F, rfl, h1, fun x hx => by have := h2 x hx; omega, HV.out.trans (HA.out.mono (by omega))⟩
theorem hnil (wk : World) (p : Option Addr) : OwnSl 2 Hp.cells wk (.slice p 0 0) [] [] := ⟨p, 0, 0, rfl, rfl, Nat.le_refl _, Nat.zero_le _, .inl ⟨rfl, rfl⟩⟩
set_option maxRecDepth 100000 in
set_option maxHeartbeats 8000000 in
theorem specHopsFrom_any (g : Gr) (e : El) (v u : Value) (node : Int) (B : Nat) (w : World) (hg : g.At B w v) (hu : e.At B w u) (hB : B ≤ w.heap.size) (hok : g.Ok) (hs : e.Sm) :
    Calls Tryd.prog 12 #[v, .int .i64 node, u] w fun en w' => ∃ v' F, en = .returned v' ∧ OwnSl 2 Hp.cells w' v' (hopsR g node e) F ∧ (∀ x ∈ F, w.heap.size ≤ x) ∧ Below w.heap.size w w' := by
  have HG := Lib.hid hg
  have HU := Lib.hid hu
  have HS := Lib.hid hs
  have HOK := Lib.hid hok
  obtain ⟨va, vb, rfl, hns, hes⟩ := hg
  obtain ⟨pa, ca, rfl⟩ := hns.form
  obtain ⟨pb, cb, rfl⟩ := hes.form
  have hm2 := hes.max
  unfold maxLen at hm2
  have HES := Lib.hid hes
  obtain ⟨p, cap, p', cap', rfl, _, _⟩ := hu.form
  clear hu hs hok hns hes
  obtain ⟨i0, hi, hzz0, hzz1, hzz2⟩ := info_parts infoHop
  obtain ⟨W0, eW⟩ : ∃ W0, W0 = (w.alloc (.cells #[.slice pa g.ns.length ca, .slice pb g.es.length cb] 26)).alloc (.cells #[.bool e.n, .string e.v, .int .i64 e.l.op, .string e.l.a, .slice p e.l.ks.list.length cap, .int .i64 e.c.op, .string e.c.a, .slice p' e.c.ks.list.length cap', .int .i64 e.d] 31) := ⟨_, rfl⟩
  have HV := Lib.hid (show Below w.heap.size w W0 by rw [eW]; exact ((Below.refl w.heap.size w).alloc (by simp) _).alloc (by simp) _)
  have hs0 : w.heap.size + 2 ≤ W0.heap.size := by rw [eW]; simp
  have HK := Lib.hid (show ∀ wk, Below (w.heap.size + 2) W0 wk → w.heap.size + 2 ≤ wk.heap.size ∧ wk.cell? ⟨w.heap.size, 0, none⟩ = some (.slice pa g.ns.length ca) ∧ wk.cell? ⟨w.heap.size, 1, none⟩ = some (.slice pb g.es.length cb) ∧ wk.cell? ⟨w.heap.size + 1, 0, none⟩ = some (.bool e.n) ∧ wk.cell? ⟨w.heap.size + 1, 1, none⟩ = some (.string e.v) ∧ wk.cell? ⟨w.heap.size + 1, 2, none⟩ = some (.int .i64 e.l.op) ∧ wk.cell? ⟨w.heap.size + 1, 3, none⟩ = some (.string e.l.a) ∧ wk.cell? ⟨w.heap.size + 1, 4, none⟩ = some (.slice p e.l.ks.list.length cap) ∧ wk.cell? ⟨w.heap.size + 1, 5, none⟩ = some (.int .i64 e.c.op) ∧ wk.cell? ⟨w.heap.size + 1, 6, none⟩ = some (.string e.c.a) ∧ wk.cell? ⟨w.heap.size + 1, 7, none⟩ = some (.slice p' e.c.ks.list.length cap') ∧ wk.cell? ⟨w.heap.size + 1, 8, none⟩ = some (.int .i64 e.d) from
    fun wk hk => by rw [eW] at hk; exact ⟨by have := hk.size; simp at this; omega, keepc hk (by omega) (by simp [go_sem]), keepc hk (by omega) (by simp [go_sem]), keepc hk (by omega) (by simp [go_sem]), keepc hk (by omega) (by simp [go_sem]), keepc hk (by omega) (by simp [go_sem]), keepc hk (by omega) (by simp [go_sem]), keepc hk (by omega) (by simp [go_sem]), keepc hk (by omega) (by simp [go_sem]), keepc hk (by omega) (by simp [go_sem]), keepc hk (by omega) (by simp [go_sem]), keepc hk (by omega) (by simp [go_sem])⟩)
  have HA := Lib.hid (Below.refl (w.heap.size + 2) W0)
  have HBK := Lib.hid (show ∀ wk, Below (w.heap.size + 2) W0 wk → Below B w wk from fun wk hk => (HV.out.trans (hk.mono (by omega))).mono hB)
  have HEA := Lib.hid (show ∀ wk, Below (w.heap.size + 2) W0 wk → e.At B wk (.agg #[.bool e.n, .string e.v, .int .i64 e.l.op, .string e.l.a, .slice p e.l.ks.list.length cap, .int .i64 e.c.op, .string e.c.a, .slice p' e.c.ks.list.length cap', .int .i64 e.d]) from fun wk hk => HU.out.below (HBK.out wk hk) (Nat.le_refl _))
  have HGA := Lib.hid (show ∀ wk, Below (w.heap.size + 2) W0 wk → g.At B wk (.agg #[.slice pa g.ns.length ca, .slice pb g.es.length cb]) from fun wk hk => HG.out.below (HBK.out wk hk))
  have EW := Lib.hid eW
  clear eW
  go_enter Tryd.func12, Tryd.ntmps12
  go_wp2_with fail
  rw [← EW.out]
  refine (specGraphValid_any g _ B _ (HGA.out _ HA.out) (by omega) HOK.out).mono ?_
  rintro en w1 ⟨rfl, hb1⟩
  have HA := Lib.hid (HA.out.trans (hb1.mono (by omega)))
  clear hb1
  obtain ⟨hz, a0, a1, c0, c1, c2, c3, c4, c5, c6, c7, c8⟩ := HK.out _ HA.out
  cases hgv : gv g with
  | false =>
    have HE := Lib.hid (hopsR_no (node := node) (show (gv g && (elemV e && !e.n)) = false by rw [hgv]; rfl))
    clear hgv
    go_wp2_with fail
    go_ret
    exact ⟨_, [], rfl, by rw [HE.out]; exact hnil _ _, by simp, (HV.out.trans (HA.out.mono (by omega))).alloc (by omega) _⟩
  | true =>
  have HGV := Lib.hid hgv
  clear hgv
  go_wp2_with fail
  refine (specElemValid_any e _ B _ (HEA.out _ HA.out) (by omega) HS.out).mono ?_
  rintro en w2 ⟨rfl, hb2⟩
  have HA := Lib.hid (HA.out.trans (hb2.mono (by omega)))
  clear hb2
  clear hz a0 a1 c0 c1 c2 c3 c4 c5 c6 c7 c8
  obtain ⟨hz, a0, a1, c0, c1, c2, c3, c4, c5, c6, c7, c8⟩ := HK.out _ HA.out
  cases hev : elemV e with
  | false =>
    have HE := Lib.hid (hopsR_no (node := node) (show (gv g && (elemV e && !e.n)) = false by rw [hev]; simp))
    clear hev
    go_wp2_with fail
    go_ret
    exact ⟨_, [], rfl, by rw [HE.out]; exact hnil _ _, by simp, (HV.out.trans (HA.out.mono (by omega))).alloc (by omega) _⟩
  | true =>
  have HEV := Lib.hid hev
  cases hen : e.n with
  | true =>
    have HE := Lib.hid (hopsR_no (node := node) (show (gv g && (elemV e && !e.n)) = false by rw [hen]; simp))
    clear hev
    rw [hen] at c0
    clear hen
    go_wp2_with fail
    go_ret
    exact ⟨_, [], rfl, by rw [HE.out]; exact hnil _ _, by simp, (HV.out.trans (HA.out.mono (by omega))).alloc (by omega) _⟩
  | false =>
  have HE := Lib.hid (hopsR_yes (node := node) (show (gv g && (elemV e && !e.n)) = true by rw [HGV.out, hev, hen]; rfl))
  have HEA2 := Lib.hid (HEA.out _ HA.out)
  rw [hen] at c0
  have HEN := Lib.hid hen
  clear hev hen
  go_wp2_with fail
  refine (l3Hops_any g e _ _ node B _ (HGA.out _ HA.out) (by have h := HEA2.out; rw [HEN.out] at h; exact h) (by omega) HOK.out HS.out HGV.out HEV.out).mono ?_
  rintro en w3 ⟨v', F, rfl, ho, hf, hb3⟩
  have HO := Lib.hid ho
  have HF := Lib.hid hf
  have HA3 := Lib.hid (HA.out.trans (hb3.mono (by omega)))
  have hz3 := hb3.size
  clear ho hf hb3
  clear a0 a1 c0 c1 c2 c3 c4 c5 c6 c7 c8
  go_wp2_with fail
  go_ret
  exact ⟨_, F, rfl, by rw [HE.out]; exact HO.out, fun x hx => by have := HF.out x hx; omega, HV.out.trans (HA3.out.mono (by omega))⟩
end Go.Proofs.YtghhabailgfelaaDoor
