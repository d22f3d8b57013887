/- FormatMatch: the text. -/
import Derived.Test.YthpclghhlodnhaaDoorWkF
import Derived.Test.YthpclghhlodnhaaDoorDecA
import Derived.Test.YthpclghhlodnhaaDoorBn
namespace Go.Proofs.YthpclghhlodnhaaDoor
open Go.RowKit

def commaT (T : ByteArray) (k : Nat) : ByteArray := if 0 < k then T ++ (⟨#[44]⟩ : ByteArray) else T
def idsT (T0 : ByteArray) (xs : List Int) : Nat → ByteArray
  | 0 => T0
  | k + 1 => commaT (idsT T0 xs k) k ++ dec (xs.getD k 0)
def bnH (T : ByteArray) (b : Bn) : ByteArray := T ++ (⟨#[32]⟩ : ByteArray) ++ b.v ++ (⟨#[61]⟩ : ByteArray)
def bnI (T : ByteArray) (b : Bn) : ByteArray := idsT (bnH T b) b.ids b.ids.length
def bnT (T : ByteArray) (b : Bn) : ByteArray := if b.g then bnI T b ++ (⟨#[59]⟩ : ByteArray) else bnI T b
def bsT (T0 : ByteArray) (xs : List Bn) : Nat → ByteArray
  | 0 => T0
  | k + 1 => bnT (bsT T0 xs k) (xs.getD k ⟨⟨#[]⟩, [], false⟩)
def fmtM (m : Mt) : ByteArray := bsT (fmtW m.w) m.bs m.bs.length
theorem getD_bn (l : List Bn) {i : Nat} (h : i < l.length) : l.getD i ⟨⟨#[]⟩, [], false⟩ = l[i] := by simp [List.getD, h]
theorem bsT_succ (T0 : ByteArray) (xs : List Bn) {k : Nat} (h : k < xs.length) : bsT T0 xs (k + 1) = bnT (bsT T0 xs k) xs[k] := by
  show bnT _ (xs.getD k _) = _
  rw [getD_bn _ h]
theorem idsT_succ (T0 : ByteArray) (xs : List Int) {k : Nat} (h : k < xs.length) : idsT T0 xs (k + 1) = commaT (idsT T0 xs k) k ++ dec xs[k] := by
  show commaT _ _ ++ dec (xs.getD k _) = _
  rw [getD_at _ h]
theorem commaT_size (T : ByteArray) (k : Nat) : (commaT T k).size ≤ T.size + 1 := by
  have h1 : (⟨#[44]⟩ : ByteArray).size = 1 := rfl
  unfold commaT
  split
  · rw [ByteArray.size_append]; omega
  · omega
theorem idsT_size {T0 : ByteArray} {xs : List Int} (hx : ∀ n ∈ xs, I64 n) : ∀ k, k ≤ xs.length → (idsT T0 xs k).size ≤ T0.size + 22 * k
  | 0, _ => by unfold idsT; omega
  | k + 1, h => by
    have ih := idsT_size (T0 := T0) hx k (by omega)
    have hk : k < xs.length := by omega
    have a := hx _ (List.getElem_mem hk)
    have b := decA_size a.1 a.2
    have c := commaT_size (idsT T0 xs k) k
    rw [idsT_succ _ _ hk, ByteArray.size_append]
    omega
theorem bnH_size (T : ByteArray) (b : Bn) : (bnH T b).size = T.size + b.v.size + 2 := by
  have h1 : (⟨#[32]⟩ : ByteArray).size = 1 := rfl
  have h2 : (⟨#[61]⟩ : ByteArray).size = 1 := rfl
  unfold bnH
  simp only [ByteArray.size_append]
  omega
theorem bnT_size {T : ByteArray} {b : Bn} (h : b.Ok) : (bnT T b).size ≤ T.size + 3 + 22 * b.need := by
  have h1 := idsT_size (T0 := bnH T b) h.2 b.ids.length (Nat.le_refl _)
  rw [bnH_size] at h1
  have h2 : (⟨#[59]⟩ : ByteArray).size = 1 := rfl
  have h3 : b.need = b.v.size + b.ids.length := rfl
  unfold bnT bnI
  split
  · rw [ByteArray.size_append]; omega
  · omega
theorem bsT_size {T0 : ByteArray} {xs : List Bn} (hx : ∀ b ∈ xs, b.Ok) : ∀ k, k ≤ xs.length → (bsT T0 xs k).size ≤ T0.size + 3 * k + 22 * sumBn (xs.take k)
  | 0, _ => by unfold bsT; omega
  | k + 1, h => by
    have hk : k < xs.length := by omega
    have ih := bsT_size (T0 := T0) hx k (by omega)
    have a := bnT_size (T := bsT T0 xs k) (hx _ (List.getElem_mem hk))
    have b := sumBn_succ xs k hk
    rw [bsT_succ _ _ hk]
    omega
theorem fmtW_le (x : Wk) : (fmtW x).size ≤ 50 := by
  cases h : wkText x with
  | false =>
    have : fmtW x = ⟨#[]⟩ := by unfold fmtW; rw [h]; rfl
    rw [this]; exact Nat.zero_le _
  | true =>
    have e : fmtW x = wkTx x x.es.length := by unfold fmtW; rw [h]; rfl
    obtain ⟨hn, he⟩ := wkText_all h
    have hs : wkShape x = true := by unfold wkText at h; simp only [Bool.and_eq_true] at h; exact h.1
    obtain ⟨h1, h2⟩ := wkShape_iff.1 hs
    have := wkTx_size hn he x.es.length (by omega) (Nat.le_refl _)
    rw [e]
    omega
/-- The sizes on the way: in front of bind k, and behind j of its numbers. -/
theorem fmtM_small {m : Mt} (hn : m.need ≤ 1048576) (hok : ∀ b ∈ m.bs, b.Ok) {k : Nat} (hk : k < m.bs.length) : (bsT (fmtW m.w) m.bs k).size + 3 + (m.bs[k]).v.size + 22 * (m.bs[k]).ids.length ≤ 30000000 := by
  have h1 := bsT_size (T0 := fmtW m.w) hok k (by omega)
  have h2 := fmtW_le m.w
  have h3 := sumBn_succ m.bs k hk
  have h4 := sumBn_le m.bs (k + 1)
  have h5 : m.need = m.w.need + (m.bs.length + sumBn m.bs) := rfl
  have h6 : (m.bs[k]).need = (m.bs[k]).v.size + (m.bs[k]).ids.length := rfl
  omega
theorem fmtM_end {m : Mt} (hn : m.need ≤ 1048576) (hok : ∀ b ∈ m.bs, b.Ok) : (fmtM m).size ≤ 30000000 := by
  have h1 := bsT_size (T0 := fmtW m.w) hok m.bs.length (Nat.le_refl _)
  have h2 := fmtW_le m.w
  have h4 := sumBn_le m.bs m.bs.length
  have h5 : m.need = m.w.need + (m.bs.length + sumBn m.bs) := rfl
  unfold fmtM
  omega
end Go.Proofs.YthpclghhlodnhaaDoor
