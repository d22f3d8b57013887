/- The model's hops along an element without anything, in any direction: some hops. -/
import Derived.Test.YtfdkmngkpihpbaaOwnM
namespace Go.Proofs.Ytfdkmngkpihpbaa
open Go.RowKit

def hqCells (x : Int × Int) : List Value := [.int .i64 x.1, .int .i64 x.2]
/-- The element without anything, of edges, in any direction. -/
def elem3 : Array Value := #[.bool false, .string ⟨#[]⟩, .int .i64 0, .string ⟨#[]⟩, .slice none 0 0, .int .i64 0, .string ⟨#[]⟩, .slice none 0 0, .int .i64 3]
theorem infoHq : (Try.prog.info? 131).map (fun i => (i.zero, i.size, i.bytes)) = some (some (.agg #[.int .i64 0, .int .i64 0]), 2, 16) := by kernel_rfl
theorem app_hop {E : World} {s : Value} {ys : List (Int × Int)} {F : List Nat} (h : OwnS 2 hqCells 131 E s ys F) (x : Int × Int) (hl : ys.length < 3000000) :
    ∃ v' w', (Builtin.append_ #[123, 123] 123 #[s, .slice (some ⟨E.heap.size, 0, none⟩) 1 1]).run Try.prog (E.alloc (.cells #[.int .i64 x.1, .int .i64 x.2] 131)) = .ok v' w' ∧
      ∃ F', OwnS 2 hqCells 131 w' v' (ys ++ [x]) F' ∧ (∀ x ∈ F', x ∈ F ∨ E.heap.size ≤ x) ∧ Chg F E w' := by
  obtain ⟨i, hi, hzz⟩ := Option.map_eq_some_iff.1 infoHq
  simp only [Prod.mk.injEq] at hzz
  have hbe : Below E.heap.size E (E.alloc (.cells #[.int .i64 x.1, .int .i64 x.2] 131)) := (Below.refl _ _).alloc (Nat.le_refl _) _
  obtain ⟨v', w', hr, F', ho, hF, hc⟩ := OwnS.append (enc := hqCells) (sz := 2) (fun _ => rfl) (fun x u hu => by simp [hqCells] at hu; rcases hu with rfl | rfl <;> rfl) 123 123 131 i _ 16 Try.underlying123 hi hzz.1 hzz.2.1 hzz.2.2 (by decide) (h.below hbe) x E.heap.size 1
    (fun j u hu => by
      rw [World.cell?_alloc_at _ _ _ _ rfl]
      match j, hu with
      | 0, hu => simpa [hqCells] using hu
      | 1, hu => simpa [hqCells] using hu
      | j + 2, hu => simp [hqCells] at hu) hl (by omega)
  exact ⟨v', w', hr, F', ho, fun x hx => by rcases hF x hx with h | h; (exact .inl h); (simp at h; exact .inr (by omega)), (Chg.of_below hbe F).trans hc⟩

set_option maxRecDepth 100000 in
set_option maxHeartbeats 1000000 in
theorem l3Fits3_any (s : ByteArray) (n : Int) (w : World) :
    Calls Try.prog 119 #[.agg elem3, .string s, .int .i64 n] w fun e w' => e = .returned (.bool true) ∧ Below w.heap.size w w' := by
  unfold elem3
  go_enter Try.func119, Try.ntmps119
  go_wp2_with fail
  go_ret
  exact ⟨rfl, by ((repeat (first | with_reducible assumption | with_reducible exact Below.refl _ _ | refine Below.setCell ?_ (by (first | omega | (simp; omega) | (simp; done) | fail "sml")) _ | refine Below.drew ?_ | refine Below.alloc ?_ (by (first | omega | (simp; omega) | (simp; done) | fail "sml")) _)); first | done | fail "chs")⟩

set_option maxRecDepth 100000 in
set_option maxHeartbeats 8000000 in
theorem l3Hops3_any (g : Gr) (v : Value) (node : Int) (B : Nat) (w : World) (hg : g.At B w v) (hB : B ≤ w.heap.size) (hn : g.es.length ≤ 1000000) :
    Calls Try.prog 109 #[v, .int .i64 node, .agg elem3] w fun e w' => ∃ v' xs F, e = .returned v' ∧ OwnS 2 hqCells 131 w' v' xs F ∧ xs.length ≤ g.es.length ∧ (∀ x ∈ F, w.heap.size ≤ x) ∧ Below w.heap.size w w' := by
  have HF := Lib.hid (fun (s : ByteArray) (n : Int) (E : World) => l3Fits3_any s n E)
  unfold elem3 at HF ⊢
  obtain ⟨a, b, rfl, h1, h2⟩ := hg
  obtain ⟨pa, ca, rfl⟩ := h1.form
  obtain ⟨pb, cb, rfl⟩ := h2.form
  have hm := h2.max
  unfold maxLen at hm
  have HE := Lib.hid h2
  clear h1 h2
  obtain ⟨W, eW⟩ : ∃ W, W = (w.alloc (.cells #[.slice pa g.ns.length ca, .slice pb g.es.length cb] 71)).alloc (.cells #[.bool false, .string ⟨#[]⟩, .int .i64 0, .string ⟨#[]⟩, .slice none 0 0, .int .i64 0, .string ⟨#[]⟩, .slice none 0 0, .int .i64 3] 129) := ⟨_, rfl⟩
  have HV := Lib.hid (show Below w.heap.size w W by rw [eW]; exact ((Below.refl w.heap.size w).alloc (by simp) _).alloc (by simp) _)
  have hs0 : W.heap.size = w.heap.size + 2 := by rw [eW]; simp
  have HK := Lib.hid (show ∀ wk, Below (w.heap.size + 2) W wk → w.heap.size + 2 ≤ wk.heap.size ∧ wk.cell? ⟨w.heap.size, 0, none⟩ = some (.slice pa g.ns.length ca) ∧ wk.cell? ⟨w.heap.size, 1, none⟩ = some (.slice pb g.es.length cb) ∧ wk.cell? ⟨w.heap.size + 1, 0, none⟩ = some (.bool false) ∧ wk.cell? ⟨w.heap.size + 1, 1, none⟩ = some (.string ⟨#[]⟩) ∧ wk.cell? ⟨w.heap.size + 1, 2, none⟩ = some (.int .i64 0) ∧ wk.cell? ⟨w.heap.size + 1, 3, none⟩ = some (.string ⟨#[]⟩) ∧ wk.cell? ⟨w.heap.size + 1, 4, none⟩ = some (.slice none 0 0) ∧ wk.cell? ⟨w.heap.size + 1, 5, none⟩ = some (.int .i64 0) ∧ wk.cell? ⟨w.heap.size + 1, 6, none⟩ = some (.string ⟨#[]⟩) ∧ wk.cell? ⟨w.heap.size + 1, 7, none⟩ = some (.slice none 0 0) ∧ wk.cell? ⟨w.heap.size + 1, 8, none⟩ = some (.int .i64 3) from
    fun wk hk => by rw [eW] at hk; exact ⟨by have := hk.size; simp at this; omega, keepc hk (by omega) (by simp [go_sem]), keepc hk (by omega) (by simp [go_sem]), keepc hk (by omega) (by simp [go_sem]), keepc hk (by omega) (by simp [go_sem]), keepc hk (by omega) (by simp [go_sem]), keepc hk (by omega) (by simp [go_sem]), keepc hk (by omega) (by simp [go_sem]), keepc hk (by omega) (by simp [go_sem]), keepc hk (by omega) (by simp [go_sem]), keepc hk (by omega) (by simp [go_sem]), keepc hk (by omega) (by simp [go_sem])⟩)
  have EW := Lib.hid eW
  clear eW
  go_enter Try.func109, Try.ntmps109
  go_wp2_with fail
  try rw [← EW.out]
  go_loopw [7, 8] (fun fnd i wr => ∃ (k : Nat) (xs : List (Int × Int)) (F : List Nat), k ≤ g.es.length ∧ i = .int .i64 k ∧ OwnS 2 hqCells 131 wr fnd xs F ∧ xs.length ≤ k ∧ (∀ x ∈ F, w.heap.size + 2 ≤ x) ∧ Below (w.heap.size + 2) W wr) (fun _ i _ => g.es.length - (intOf i).toNat)
  case atStart => exact ⟨0, [], [], Nat.zero_le _, rfl, OwnS.empty _, Nat.le_refl _, by simp, (Below.refl _ _).alloc (by omega) _⟩
  case round =>
    obtain ⟨k, xs, F, hk, rfl, ho, hx, hF, hb⟩ := hrel
    have HB := Lib.hid hb
    have HO := Lib.hid ho
    have HFL := Lib.hid hF
    clear hb ho hF
    obtain ⟨hz, a0, a1, c0, c1, c2, c3, c4, c5, c6, c7, c8⟩ := HK.out _ HB.out
    by_cases hlt : k < g.es.length
    · obtain ⟨b, off, rfl, hbb, x0, x1, x2, x3⟩ := (HE.out.below ((HV.out.trans (HB.out.mono (by omega))).mono hB)).ed hlt
      obtain ⟨x, ex⟩ : ∃ x, x = g.es[k] := ⟨_, rfl⟩
      rw [← ex] at x0 x1 x2 x3
      clear ex
      have hq1 : w.heap.size < wr.heap.size := by omega
      have hq2 : w.heap.size + 1 < wr.heap.size := by omega
      go_wp2_with fail
      refine (HF.out x.l x.n _).mono ?_
      rintro en w4 ⟨rfl, hb4⟩
      have s4 : wr.heap.size < w4.heap.size := by have := hb4.size; simp at this; omega
      have y0 := new_cell hb4 (j := 0) rfl
      have y1 := new_cell hb4 (j := 1) rfl
      have HO4 := Lib.hid (HO.out.below (below_past hb4))
      have HB4 := Lib.hid (HB.out.trans ((below_past hb4).mono hz))
      clear hb4 x0 x1 x2 x3 hq1 hq2 hz a0 a1 c0 c1 c2 c3 c4 c5 c6 c7 c8
      obtain ⟨hz, a0, a1, c0, c1, c2, c3, c4, c5, c6, c7, c8⟩ := HK.out _ HB4.out
      have hq1 : w.heap.size < w4.heap.size := by omega
      have hq2 : w.heap.size + 1 < w4.heap.size := by omega
      have HA1 := Lib.hid (app_hop HO4.out (k, x.t) (by omega))
      have HA2 := Lib.hid (app_hop HO4.out (k, x.f) (by omega))
      by_cases h1 : x.f = node
      · have q1 : (x.f == node) = true := beq_iff_eq.2 h1
        clear h1
        go_wp2_with (at_builtin; refine wpApp rfl (.tmp 39) (.tmp 44) 123 rfl _ _ rfl rfl _ HA1.out ?_; rintro v2 w2 hr; have HR := Lib.hid hr; clear hr)
        go_roundw
        case rel =>
          obtain ⟨F', h1, h2, h3⟩ := HR.out
          exact ⟨k + 1, _, F', by omega, by go_num, h1, by simp; omega, fun y hy => by rcases h2 y hy with h | h; (exact HFL.out y h); omega, HB4.out.trans (h3.below hz HFL.out)⟩
        case measure => simp [intOf]; omega
      · have q1 : (x.f == node) = false := beq_eq_false_iff_ne.2 h1
        clear h1
        by_cases h2 : x.t = node
        · have q2 : (x.t == node) = true := beq_iff_eq.2 h2
          clear h2
          go_wp2_with (at_builtin; refine wpApp rfl (.tmp 55) (.tmp 60) 123 rfl _ _ rfl rfl _ HA2.out ?_; rintro v2 w2 hr; have HR := Lib.hid hr; clear hr)
          go_roundw
          case rel =>
            obtain ⟨F', h1, h2, h3⟩ := HR.out
            exact ⟨k + 1, _, F', by omega, by go_num, h1, by simp; omega, fun y hy => by rcases h2 y hy with h | h; (exact HFL.out y h); omega, HB4.out.trans (h3.below hz HFL.out)⟩
          case measure => simp [intOf]; omega
        · have q2 : (x.t == node) = false := beq_eq_false_iff_ne.2 h2
          clear h2
          go_wp2_with fail
          go_roundw
          case rel => exact ⟨k + 1, xs, F, by omega, by go_num, HO4.out, by omega, HFL.out, HB4.out⟩
          case measure => simp [intOf]; omega
    · go_wp2_with fail
      go_ret
      exact ⟨_, xs, F, rfl, HO.out, by omega, fun x hx => by have := HFL.out x hx; omega, HV.out.trans (HB.out.mono (by omega))⟩
end Go.Proofs.Ytfdkmngkpihpbaa
