/- Hops of turned elements, and TurnElem with named answers. -/
import Derived.Test.YtghhabailgfelaaDoorM7p1
import Derived.Test.YtghhabailgfelaaDoorTurnS
import Derived.Test.YtghhabailgfelaaDoorM5p1
import Derived.Test.YtghhabailgfelaaDoorM2p1
namespace Go.Proofs.YtghhabailgfelaaDoor
open Go.RowKit

theorem turnD_v {d : Int} (h : 0 ≤ d ∧ d ≤ 3) : (turnD d = 0 ↔ d = 0) ∧ 0 ≤ turnD d ∧ turnD d ≤ 3 ∧ turnD (turnD d) = d := by
  have : d = 0 ∨ d = 1 ∨ d = 2 ∨ d = 3 := by omega
  rcases this with rfl | rfl | rfl | rfl <;> decide
theorem elemV_d {e : El} (h : elemV e = true) : 0 ≤ e.d ∧ e.d ≤ 3 := by
  unfold elemV dirV at h
  simp only [Bool.and_eq_true, decide_eq_true_eq] at h
  exact h.1.2
theorem elemV_turn {e : El} (h : elemV e = true) : elemV e.turn = true := by
  have hd := turnD_v (elemV_d h)
  unfold elemV at h ⊢
  simp only [Bool.and_eq_true] at h ⊢
  refine ⟨?_, h.2⟩
  have h1 := h.1
  unfold dirV at h1 ⊢
  simp only [Bool.and_eq_true, decide_eq_true_eq] at h1 ⊢
  refine ⟨?_, hd.2.1, hd.2.2.1⟩
  rw [show e.turn.n = e.n from rfl, show e.turn.d = turnD e.d from rfl, decide_eq_decide.2 hd.1]
  exact h1.1
theorem turn_turn {e : El} (h : elemV e = true) : e.turn.turn = e := by
  obtain ⟨n, v, l, c, d⟩ := e
  show (⟨n, v, l, c, turnD (turnD d)⟩ : El) = ⟨n, v, l, c, d⟩
  rw [(turnD_v (elemV_d h)).2.2.2]
theorem turnR_turnR {e : El} (h : elemV e = true) : turnR (turnR e) = e := by rw [turnR_ok h, turnR_ok (elemV_turn h), turn_turn h]
theorem follB_turn (node d : Int) (hd : 0 ≤ d ∧ d ≤ 3) (x : Ed) : follB node (turnD d) x = follB node d (turnE x) := by
  have : d = 0 ∨ d = 1 ∨ d = 2 ∨ d = 3 := by omega
  unfold follB turnE
  rcases this with rfl | rfl | rfl | rfl <;> (cases (x.f == node) <;> cases (x.t == node) <;> simp [turnD])
theorem follT_turn (node d : Int) (hd : 0 ≤ d ∧ d ≤ 3) (x : Ed) : follT node (turnD d) x = follT node d (turnE x) := by
  have : d = 0 ∨ d = 1 ∨ d = 2 ∨ d = 3 := by omega
  unfold follT turnE
  rcases this with rfl | rfl | rfl | rfl <;> (by_cases h1 : x.f = node <;> by_cases h2 : x.t = node <;> simp [turnD, h1, h2])
theorem hopsN_turn {node : Int} {e : El} (hd : 0 ≤ e.d ∧ e.d ≤ 3) (es : List Ed) : ∀ k, k ≤ es.length → hopsN node e.turn es k = hopsN node e (es.map turnE) k
  | 0, _ => rfl
  | k + 1, hk => by
    have ih := hopsN_turn (node := node) hd es k (by omega)
    have hlt : k < es.length := hk
    have hlt2 : k < (es.map turnE).length := by simpa using hlt
    have hx : (es.map turnE)[k] = turnE es[k] := by simp
    have hb : hopB node e.turn es[k] = hopB node e (es.map turnE)[k] := by
      rw [hx]
      unfold hopB
      rw [show e.turn.d = turnD e.d from rfl, follB_turn node e.d hd]
      rfl
    cases hc : hopB node e.turn es[k] with
    | false => rw [hopsN_no hlt hc, hopsN_no hlt2 (hb.symm.trans hc), ih]
    | true => rw [hopsN_yes hlt hc, hopsN_yes hlt2 (hb.symm.trans hc), ih, hx, show e.turn.d = turnD e.d from rfl, follT_turn node e.d hd]
theorem hopsR_turn {g : Gr} {node : Int} {e : El} (hg : gv g = true) (he : elemV e = true) : hopsR g node (turnR e) = hopsR (tgr g) node e := by
  rw [turnR_ok he]
  unfold hopsR
  rw [hg, gv_tgr hg, elemV_turn he, he, show e.turn.n = e.n from rfl]
  cases hn : e.n with
  | true => rfl
  | false =>
    rw [if_pos (by rfl), if_pos (by rfl), tgr_of hg, hopsN_turn (elemV_d he) g.es _ (Nat.le_refl _)]
    simp
theorem tgr_ok {g : Gr} (hg : gv g = true) (h : g.Ok) : (tgr g).Ok := by
  rw [tgr_of hg]
  exact ⟨h.1, fun e he => by obtain ⟨y, hy, rfl⟩ := List.mem_map.1 he; have := h.2 y hy; exact ⟨this.2.1, this.1, this.2.2.1, this.2.2.2⟩⟩
/-- The hop back. -/
theorem follB_back {node d : Int} (hd : 0 ≤ d ∧ d ≤ 3) {x : Ed} (h : follB node d x = true) : follB (follT node d x) (turnD d) x = true ∧ follT (follT node d x) (turnD d) x = node := by
  have : d = 0 ∨ d = 1 ∨ d = 2 ∨ d = 3 := by omega
  unfold follB at h
  unfold follB follT
  obtain ⟨f, t, l, n⟩ := x
  rcases this with rfl | rfl | rfl | rfl <;> (by_cases h1 : f = node <;> by_cases h2 : t = node <;> simp_all [turnD] <;> (try (by_cases h3 : f = t <;> simp_all)) <;> (try (by_cases h4 : t = f <;> simp_all)))
theorem hopsN_has {node : Int} {e : El} {es : List Ed} {j : Nat} {x : Ed} (h : es[j]? = some x) (hb : hopB node e x = true) : ∀ k, j < k → k ≤ es.length → (⟨(j : Int), follT node e.d x⟩ : Hp) ∈ hopsN node e es k
  | 0, h0, _ => by omega
  | k + 1, h0, hk => by
    have hlt : k < es.length := hk
    by_cases hj : j = k
    · subst hj
      have hx : es[j] = x := by rw [List.getElem?_eq_getElem hlt] at h; exact Option.some.inj h
      rw [hopsN_yes hlt (by rw [hx]; exact hb), hx]
      simp
    · have ih := hopsN_has h hb k (by omega) (by omega)
      cases hc : hopB node e es[k] with
      | false => rw [hopsN_no hlt hc]; exact ih
      | true => rw [hopsN_yes hlt hc]; exact List.mem_append_left _ ih
theorem hopsR_back {g : Gr} {node : Int} {e : El} {h : Hp} (hm : h ∈ hopsR g node e) : (⟨h.e, node⟩ : Hp) ∈ hopsR g h.t (turnR e) := by
  obtain ⟨hg, he, hn⟩ := hopsR_val hm
  rw [hopsR_yes (by rw [hg, he, hn]; rfl)] at hm
  obtain ⟨j, x, h1, h2, rfl, h4⟩ := hopsN_mem hm
  rw [turnR_ok he, hopsR_yes (by rw [hg, elemV_turn he, show e.turn.n = e.n from rfl, hn]; rfl)]
  unfold hopB at h4
  simp only [Bool.and_eq_true] at h4
  obtain ⟨b1, b2⟩ := follB_back (elemV_d he) h4.1
  have := hopsN_has (node := follT node e.d x) (e := e.turn) h1 (by unfold hopB; rw [show e.turn.d = turnD e.d from rfl, b1]; exact h4.2) g.es.length h2 (Nat.le_refl _)
  rw [show e.turn.d = turnD e.d from rfl, b2] at this
  exact this
/-- Whether a hop is among hops. -/
def hasH (a b : Int) (hs : List Hp) : Bool := hs.any (fun h => h.e == a && h.t == b)
theorem hasH_zero (a b : Int) (hs : List Hp) : hasH a b (hs.take 0) = false := by simp [hasH]
theorem hasH_succ (a b : Int) (hs : List Hp) {k : Nat} (h : k < hs.length) : hasH a b (hs.take (k + 1)) = (hasH a b (hs.take k) || (hs[k].e == a && hs[k].t == b)) := by
  unfold hasH
  rw [List.take_succ_eq_append_getElem h, List.any_append]
  simp
theorem hasH_all (a b : Int) (hs : List Hp) : hasH a b (hs.take hs.length) = hasH a b hs := by rw [List.take_length]
theorem hasH_back {g : Gr} {node : Int} {e : El} {h : Hp} (hm : h ∈ hopsR g node e) : hasH h.e node (hopsR g h.t (turnR e)) = true := by
  unfold hasH
  exact List.any_eq_true.2 ⟨_, hopsR_back hm, by simp⟩
end Go.Proofs.YtghhabailgfelaaDoor
namespace Go.Proofs.YtghhabailgfelaaDoor
open Go.RowKit

theorem turnR_small (e : El) : (turnR e).l.ks.size ≤ 1048576 ∧ (turnR e).c.ks.size ≤ 1048576 := by
  cases h : elemV e with
  | false => rw [turnR_bad h]; exact ⟨Nat.zero_le _, Nat.zero_le _⟩
  | true =>
    rw [turnR_ok h]
    have := elemV_ks h
    exact ⟨Nat.le_trans this.1 (by decide), Nat.le_trans this.2 (by decide)⟩
theorem turnR_sm {e : El} (h : elemV e = true) (hs : e.Sm) : (turnR e).Sm := by rw [turnR_ok h]; exact hs
theorem turnElem_to {e T : El} {b : Bool} (hT : turnR e = T) (hv : elemV e = b) (u : Value) (B : Nat) (w : World) (hu : e.At B w u) (hB : B ≤ w.heap.size) (hs : e.Sm) (hvars : Vars w) :
    Calls Tryd.prog 14 #[u] w fun en w' => ∃ v' F, en = .returned (.tuple #[v', .bool b]) ∧ T.Has v' F w' ∧ (∀ x ∈ F, w.heap.size ≤ x) ∧ Below w.heap.size w w' := by
  subst hT hv
  exact turnElem_any e u B w hu hB hs hvars
theorem specTurnElem_to {e T : El} {b : Bool} (hT : turnR e = T) (hv : elemV e = b) (u : Value) (B : Nat) (w : World) (hu : e.At B w u) (hB : B ≤ w.heap.size) (hs : e.Sm) :
    Calls Tryd.prog 15 #[u] w fun en w' => ∃ v' F, en = .returned (.tuple #[v', .bool b]) ∧ T.Has v' F w' ∧ (∀ x ∈ F, w.heap.size ≤ x) ∧ Below w.heap.size w w' := by
  subst hT hv
  exact specTurnElem_any e u B w hu hB hs
theorem elemSame_to {e : El} {u u' : Value} {B : Nat} {w : World} (hu : e.Liv B w u) (hu' : e.Liv B w u') (hB : B ≤ w.heap.size) (s : e.l.ks.size ≤ 1048576 ∧ e.c.ks.size ≤ 1048576) :
    Calls Tryd.prog 16 #[u, u'] w fun en w' => en = .returned (.bool true) ∧ Below w.heap.size w w' := by
  have h := elemSame_of e e u u' B w hu hu' hB s.1 s.2
  rw [elEq_true rfl] at h
  exact h
theorem El.Has.form {e : El} {v : Value} {F : List Nat} {w : World} (h : e.Has v F w) : ∃ p c p' c', v = .agg #[.bool e.n, .string e.v, .int .i64 e.l.op, .string e.l.a, .slice p e.l.ks.list.length c, .int .i64 e.c.op, .string e.c.a, .slice p' e.c.ks.list.length c', .int .i64 e.d] := by
  obtain ⟨k1, k2, f1, f2, e1, _, _, e4, e5⟩ := h
  obtain ⟨p1, c1, rfl⟩ := e4.in.form
  obtain ⟨p2, c2, rfl⟩ := e5.in.form
  exact ⟨_, _, _, _, e1⟩
end Go.Proofs.YtghhabailgfelaaDoor
