/- markMatch, markBind, heldBind, eqBind by values. -/
import Derived.Test.YtchhobphockhhaaMarkMt
import Derived.Test.YtchhobphockhhaaBo
import Derived.Test.YtchhobphockhhaaMtSame
namespace Go.Proofs.Ytchhobphockhhaa
open Go.RowKit

theorem eqBindV_any (b : Bn) (v v' : Value) (B : Nat) (w : World) (h : b.At B w v) (h' : b.At B w v') (hB : B ≤ w.heap.size) :
    Calls Try.prog 27 #[v, v'] w fun e w' => e = .returned (.bool true) ∧ Below w.heap.size w w' := by
  obtain ⟨s, rfl, h⟩ := h
  obtain ⟨s', rfl, h'⟩ := h'
  exact eqBind_any b s s' B w h h' hB
/-- A bind whose numbers are marked. -/
def Bn.mk1 (b : Bn) (m : Int) : Bn := ⟨b.v, (List.range b.ids.length).map (mkInt m), b.g⟩

set_option maxHeartbeats 1000000 in
theorem markMatch_any (x : Mt) (v : Value) (F : List Nat) (m : Int) (w : World) (hx : x.Has v F w) (hm : 1 ≤ m) (hb : m + 2 * x.need ≤ 80000000) :
    Calls Try.prog 28 #[v, .int .i64 m] w fun e w' => ∃ r : Int, e = .returned (.int .i64 r) ∧ 1 ≤ r ∧ Chg F w w' := by
  obtain ⟨a, b, c, F1, F2, rfl, rfl, h1, h2, h3⟩ := hx
  have L1 := Lib.hid h1.lt
  have H1 := Lib.hid h1
  have H2 := Lib.hid h2
  have H3 := Lib.hid h3
  have hn : x.need = x.w.ns.length + x.w.es.length + (x.bs.length + sumBn x.bs) := rfl
  have hn1 : m + x.w.ns.length + x.w.es.length ≤ 100000000 := by omega
  have hn2 : m + x.w.ns.length + x.w.es.length + 2 * x.bs.length + sumBn x.bs ≤ 90000000 := by omega
  clear h1 h2 h3 hn hb
  go_enter Try.func28, Try.ntmps28
  go_wp2_with fail
  have hl : Below w.heap.size w (w.alloc (.cells #[a, b, c] 41)) := (Below.refl _ _).alloc (Nat.le_refl _) _
  refine (markWalk_any x.w _ F1 m _ (H1.out.chg (Chg.of_below hl []) (by simp)) hm hn1).mono ?_
  rintro e w1 ⟨rfl, _, hc1⟩
  have HC0 := Lib.hid (Chg.of_below hl (F1 ++ F2))
  have HC1 := Lib.hid (HC0.out.trans (hc1.mono (fun x hx => List.mem_append_left _ hx)))
  have p1 : w1.cell? ⟨w.heap.size, 2, none⟩ = some c :=
    (World.cell?_of_block (w := w.alloc (.cells #[a, b, c] 41)) (a := ⟨w.heap.size, 2, none⟩) (hc1.block w.heap.size (by simp) (fun hx => by have := L1.out _ hx; omega))).trans (by simp [go_sem])
  have HE := Lib.hid ((H2.out.below hl).chg hc1 (fun x hx hx1 => H3.out x hx1 hx))
  clear hc1 hl
  go_wp2_with fail
  refine (markBindS_any x.bs c F2 _ _ HE.out (by omega) (by omega)).mono ?_
  rintro e w2 ⟨r, rfl, hr, hc2⟩
  have HC2 := Lib.hid (HC1.out.trans (hc2.mono (fun x hx => List.mem_append_right _ hx)))
  clear hc2
  go_wp2_with fail
  go_ret
  exact ⟨r, rfl, hr, HC2.out⟩

set_option maxHeartbeats 1000000 in
theorem markBind_any (x : Bn) (v : Value) (F : List Nat) (m : Int) (w : World) (hx : x.Has v F w) (hm : 1 ≤ m) (hb : m + x.ids.length ≤ 100000000) :
    Calls Try.prog 29 #[v, .int .i64 m] w fun e w' => e = .returned (.int .i64 (m + x.ids.length)) ∧ (x.mk1 m).Has v F w' ∧ Chg F w w' := by
  obtain ⟨s, rfl, h1⟩ := hx
  have H1 := Lib.hid h1
  clear h1
  go_enter Try.func29, Try.ntmps29
  go_wp2_with fail
  have hl : Below w.heap.size w (w.alloc (.cells #[.string x.v, s, .bool x.g] 45)) := (Below.refl _ _).alloc (Nat.le_refl _) _
  refine (markIntS_any x.ids s F m _ (H1.out.below hl) hm hb).mono ?_
  rintro e w1 ⟨rfl, ho, hc⟩
  have HO := Lib.hid ho
  have HC := Lib.hid ((Chg.of_below hl F).trans hc)
  clear ho hc hl
  go_wp2_with fail
  go_ret
  exact ⟨rfl, ⟨s, rfl, HO.out⟩, HC.out⟩

set_option maxHeartbeats 1000000 in
theorem heldBind_any (x : Bn) (v : Value) (m : Int) (B : Nat) (w : World) (hx : (x.mk1 m).At B w v) (hB : B ≤ w.heap.size) (hm : 1 ≤ m) (hb : m + x.ids.length ≤ 100000000) :
    Calls Try.prog 30 #[v, .int .i64 m] w fun e w' => e = .returned (.int .i64 (m + x.ids.length)) ∧ Below w.heap.size w w' := by
  obtain ⟨s, rfl, h1⟩ := hx
  have H1 := Lib.hid h1
  have hneg : ¬ (m + (x.ids.length : Int) < 0) := by omega
  clear h1
  go_enter Try.func30, Try.ntmps30
  go_wp2_with fail
  have hl : Below w.heap.size w (w.alloc (.cells #[.string x.v, s, .bool x.g] 45)) := (Below.refl _ _).alloc (Nat.le_refl _) _
  refine (heldIntS_any x.ids.length s m B _ (H1.out.below (hl.mono hB)) (by simp; omega) hm hb).mono ?_
  rintro e w1 ⟨rfl, hb1⟩
  have HB1 := Lib.hid (hl.trans (hb1.mono (by simp)))
  clear hb1 hl
  go_wp2_with fail
  go_ret
  exact ⟨rfl, HB1.out⟩
end Go.Proofs.Ytchhobphockhhaa
