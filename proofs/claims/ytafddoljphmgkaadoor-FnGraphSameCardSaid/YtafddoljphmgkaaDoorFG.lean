/- FormatGraph: the texts; strings.Builder's String. -/
import Derived.Test.YtafddoljphmgkaaDoorBld
import Derived.Test.YtafddoljphmgkaaDoorTxt
import Derived.Test.YtafddoljphmgkaaDoorGraph
import Derived.Deep.RegionHeld3
import Derived.Deep.DeepCutAuto
namespace Go.Proofs.YtafddoljphmgkaaDoor
open Go.RowKit

def ndT (x : Nd) : ByteArray := (⟨#[40]⟩ : ByteArray) ++ propT x.l x.n ++ (⟨#[41]⟩ : ByteArray)
def edT (x : Ed) : ByteArray := (⟨#[91]⟩ : ByteArray) ++ (dec x.f ++ (⟨#[62]⟩ : ByteArray) ++ dec x.t) ++ (⟨#[32]⟩ : ByteArray) ++ propT x.l x.n ++ (⟨#[93]⟩ : ByteArray)
def nsT (xs : List Nd) : Nat → ByteArray
  | 0 => ⟨#[]⟩
  | k + 1 => nsT xs k ++ ndT (xs.getD k ⟨⟨#[]⟩, 0⟩)
def esT (T0 : ByteArray) (xs : List Ed) : Nat → ByteArray
  | 0 => T0
  | k + 1 => esT T0 xs k ++ edT (xs.getD k ⟨0, 0, ⟨#[]⟩, 0⟩)
def fmtG (g : Gr) : ByteArray := if gv g then esT (nsT g.ns g.ns.length) g.es g.es.length else ⟨#[]⟩
theorem getD_nd (l : List Nd) {i : Nat} (h : i < l.length) : l.getD i ⟨⟨#[]⟩, 0⟩ = l[i] := by simp [List.getD, h]
theorem getD_ed (l : List Ed) {i : Nat} (h : i < l.length) : l.getD i ⟨0, 0, ⟨#[]⟩, 0⟩ = l[i] := by simp [List.getD, h]
theorem pv_small {s : ByteArray} {n : Int} (h : pv s n = true) : s.size ≤ 6 ∧ 0 ≤ n ∧ n ≤ 99 := by
  unfold pv at h
  simp only [Bool.and_eq_true, Bool.or_eq_true, decide_eq_true_eq] at h
  refine ⟨?_, h.2.1, h.2.2⟩
  rcases h.1 with h1 | h1
  · omega
  · unfold lv lvL at h1
    simp only [Bool.and_eq_true, decide_eq_true_eq] at h1
    have := h1.1.2
    rw [Array.length_toList] at this
    exact this
theorem gvf_parts {g : Gr} (h : gv g = true) : g.ns.length ≤ 8 ∧ g.es.length ≤ 14 ∧ (∀ x ∈ g.ns, x.l.size ≤ 6 ∧ 0 ≤ x.n ∧ x.n ≤ 99) ∧ (∀ x ∈ g.es, (0 ≤ x.f ∧ x.f ≤ 99) ∧ (0 ≤ x.t ∧ x.t ≤ 99) ∧ (x.l.size ≤ 6 ∧ 0 ≤ x.n ∧ x.n ≤ 99)) := by
  unfold gv at h
  simp only [Bool.and_eq_true, List.all_eq_true, decide_eq_true_eq] at h
  obtain ⟨⟨h1, h2, h3⟩, h4, h5⟩ := h
  refine ⟨h2, h3, fun x hx => pv_small (h4 x hx), fun x hx => ?_⟩
  have h6 := h5 x hx
  unfold edV hn at h6
  simp only [Bool.and_eq_true, decide_eq_true_eq] at h6
  obtain ⟨⟨a1, a2⟩, ⟨b1, b2⟩, c⟩ := h6
  exact ⟨⟨a1, by omega⟩, ⟨b1, by omega⟩, pv_small c⟩
theorem ndT_size {x : Nd} (h : x.l.size ≤ 6 ∧ 0 ≤ x.n ∧ x.n ≤ 99) : (ndT x).size ≤ 11 := by
  unfold ndT
  have := propT_size h.1 h.2.1 h.2.2
  simp only [ByteArray.size_append]
  have : (⟨#[40]⟩ : ByteArray).size = 1 := rfl
  have : (⟨#[41]⟩ : ByteArray).size = 1 := rfl
  omega
theorem edT_size {x : Ed} (h : (0 ≤ x.f ∧ x.f ≤ 99) ∧ (0 ≤ x.t ∧ x.t ≤ 99) ∧ (x.l.size ≤ 6 ∧ 0 ≤ x.n ∧ x.n ≤ 99)) : (edT x).size ≤ 17 := by
  unfold edT
  have := propT_size h.2.2.1 h.2.2.2.1 h.2.2.2.2
  have := dec_size h.1.1 h.1.2
  have := dec_size h.2.1.1 h.2.1.2
  simp only [ByteArray.size_append]
  have : (⟨#[91]⟩ : ByteArray).size = 1 := rfl
  have : (⟨#[62]⟩ : ByteArray).size = 1 := rfl
  have : (⟨#[32]⟩ : ByteArray).size = 1 := rfl
  have : (⟨#[93]⟩ : ByteArray).size = 1 := rfl
  omega
theorem nsT_size {xs : List Nd} (hx : ∀ x ∈ xs, x.l.size ≤ 6 ∧ 0 ≤ x.n ∧ x.n ≤ 99) : ∀ k, k ≤ xs.length → (nsT xs k).size ≤ 11 * k
  | 0, _ => by unfold nsT; simp [ByteArray.size]
  | k + 1, h => by
    unfold nsT
    have ih := nsT_size hx k (by omega)
    have a := ndT_size (hx _ (List.getElem_mem (show k < xs.length by omega)))
    rw [getD_nd _ (show k < xs.length by omega), ByteArray.size_append]
    omega
theorem esT_size {T0 : ByteArray} {xs : List Ed} (hx : ∀ x ∈ xs, (0 ≤ x.f ∧ x.f ≤ 99) ∧ (0 ≤ x.t ∧ x.t ≤ 99) ∧ (x.l.size ≤ 6 ∧ 0 ≤ x.n ∧ x.n ≤ 99)) : ∀ k, k ≤ xs.length → (esT T0 xs k).size ≤ T0.size + 17 * k
  | 0, _ => by unfold esT; omega
  | k + 1, h => by
    unfold esT
    have ih := esT_size (T0 := T0) hx k (by omega)
    have a := edT_size (hx _ (List.getElem_mem (show k < xs.length by omega)))
    rw [getD_ed _ (show k < xs.length by omega), ByteArray.size_append]
    omega
theorem strCells_add (s t : ByteArray) : Lib.strCells (s ++ t) = Lib.strCells s ++ Lib.strCells t := by
  unfold Lib.strCells
  rw [ByteArray.data_append, Array.toList_append, List.map_append]
theorem bldString_any (B b : Nat) (T : ByteArray) (w : World) (h : Bld B b (Lib.strCells T) w) (hBw : B ≤ w.heap.size) :
    Calls Tryd.prog 20 #[.pointer (some ⟨b, 0, none⟩)] w fun e w' => e = .returned (.string T) ∧ Below B w w' := by
  have h2 : Lib.IsBuilder 48 5 B b (Lib.byteCells T.data.toList) w := h
  refine (Tryd.Builder_String_any B b T.data.toList w h2 hBw).mono ?_
  rintro e w' ⟨rfl, hb⟩
  refine ⟨?_, hb⟩
  rw [Array.toArray_toList]
end Go.Proofs.YtafddoljphmgkaaDoor
