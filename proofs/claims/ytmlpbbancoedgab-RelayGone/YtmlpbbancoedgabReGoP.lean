/- RelayGone on plain data. -/
import Derived.Test.YtmlpbbancoedgabReW
namespace Go.Proofs.Ytmlpbbancoedgab
open Go.RowKit
set_option maxRecDepth 100000
set_option linter.unusedSimpArgs false
set_option linter.unusedVariables false

def oneB (k : Nat) : ByteArray := ⟨(bytesOf 1 (fun _ => k)).toArray⟩
theorem oneB_size (k : Nat) : (oneB k).size = 1 := by
  unfold oneB
  show (bytesOf 1 (fun _ => k)).toArray.size = 1
  rw [List.size_toArray, bytesOf_length]
theorem oneB_inj {c d : Nat} (hc : c < 256) (hd : d < 256) (h : oneB c = oneB d) : c = d := by
  have h1 : (bytesOf 1 (fun _ => c)).toArray.toList = (bytesOf 1 (fun _ => d)).toArray.toList := congrArg (fun b => b.data.toList) h
  rw [List.toList_toArray, List.toList_toArray] at h1
  have h2 := congrArg (fun l => l[0]?) h1
  unfold bytesOf at h2
  simp at h2
  have h3 := congrArg UInt8.toNat h2
  simp at h3
  omega

theorem row_oneR (W : World) (k : Nat) : Row8 (W.alloc (.cells #[.int .u8 (k : Int)] 5)) W.heap.size 1 (fun _ => k) := by
  refine ⟨_, _, _, heap_alloc_last W _, Or.inr rfl, fun j hj => ?_⟩
  obtain rfl : j = 0 := by omega
  rfl

theorem conv_oneR {W : World} {g k : Nat} (h : Row8 W g 1 (fun _ => k)) (hk : k < 256) : (convert 31 9 (.slice (some ⟨g, 0, none⟩) 1 1)).run Try.prog W = .ok (.string (oneB k)) W :=
  Row8.conv (P := Try.prog) h (fun _ => hk) 1 1 (Nat.le_refl _) 31 9 Try.underlying31 Try.underlying5 Try.underlying9

def goL : Nat → List ItT
  | 0 => []
  | i + 1 => goL i ++ [((i : Int) + 1, 1, oneB i)]

theorem goL_len (i : Nat) : (goL i).length = i := by
  induction i with
  | zero => rfl
  | succ i ih => show (goL i ++ [_]).length = _; rw [List.length_append, ih]; rfl

theorem goL_at (i j : Nat) (h : j < i) : itL (goL i) j = ((j : Int) + 1, 1, oneB j) := by
  induction i with
  | zero => omega
  | succ i ih =>
    show itL (goL i ++ [_]) j = _
    rw [itL_snoc, goL_len]
    by_cases e : j < i
    · rw [if_pos e]; exact ih e
    · obtain rfl : j = i := by omega
      rw [if_neg e, if_pos rfl]

theorem goL_size (i : Nat) : sizeL (goL i) = i := by
  induction i with
  | zero => rfl
  | succ i ih =>
    show sizeL (goL i ++ [_]) = _
    rw [sizeL_append, ih]
    show i + ((oneB i).size + 0) = i + 1
    rw [oneB_size]

def goX (i : Nat) : RlT := (0, 1048576, (0, 0, ⟨#[]⟩), goL i)

theorem goX_last (i : Nat) : lastL (goX i) = (i : Int) := by
  unfold lastL goX
  show (0 : Int) + ((goL i).length : Int) = _
  rw [goL_len]; omega

theorem goX_bytes (i : Nat) : bytesL (goX i) = i := by
  unfold bytesL goX
  show 0 + sizeL (goL i) = i
  rw [goL_size]; omega

theorem go_add (i : Nat) (h : i < 20) : doR (goX i) (appF 0 1 (oneB i)) = (goX (i + 1), takF ((i : Int) + 1)) := by
  have hsa : sameA (goX i).2.2.2 1 (oneB i) = none := fstN_no _ _ (fun m hm => by
    have hm2 : m < (goL i).length := hm
    rw [goL_len] at hm2
    show (decide ((itL (goL i) m).2.1 = 1) && decide ((itL (goL i) m).2.2 = oneB i)) = false
    rw [goL_at i m hm2, Bool.and_eq_false_iff]
    exact .inr (decide_eq_false (fun e => by have := oneB_inj (by omega) (by omega) e; omega)))
  rw [doR_app (g := 0) _ rfl, addR_new _ _ _ _ hsa, goX_last, goX_bytes, oneB_size, if_neg (by show ¬ (1024 ≤ (goL i).length); rw [goL_len]; omega), if_neg (by show ¬ ((1048576 : Int) < (i : Int) + ((1 : Nat) : Int)); omega)]
  rfl

theorem goX_ok (i : Nat) (h : i ≤ 20) : RlOk i (goX i) ∧ EpOk (goX i) := by
  induction i with
  | zero => exact ⟨newR_ok (by decide) (by decide) (by decide) (by decide), newR_ep _ _⟩
  | succ i ih =>
    obtain ⟨h1, h2⟩ := ih (by omega)
    have hF : FrOk (appF 0 1 (oneB i)) := (appF_fit inN_zero ⟨by decide, by decide⟩ (by rw [oneB_size]; decide)).ok
    have k1 := doR_ok h1 hF
    have k2 := doR_ep h2 hF
    rw [go_add i (by omega)] at k1 k2
    exact ⟨k1, k2⟩

theorem go_ask (n : Nat) : doR (goX n) (askF 0) = (goX n, errF 3) := by
  rw [doR_ask (g := 0) _ rfl]
  rfl

def kptF (s : Int) : FrmT := (6, 0, s, 0, 0, ⟨#[]⟩, [], 0)
def goY (n k : Nat) : RlT := (0, 1048576, ((k : Int), 2, ⟨#[111, 110, 101]⟩), (goL n).drop k)
def goZ (n k m : Nat) : RlT := (0, 1048576, ((m : Int), 3, ⟨#[116, 119, 111]⟩), ((goL n).drop k).drop (m - k))

theorem goL_drop (n k : Nat) : sizeL ((goL n).drop k) ≤ n := by
  have := sizeL_split (goL n) k
  rw [goL_size] at this
  omega

theorem go_kep1 (n k : Nat) (h1 : 1 ≤ k) (h2 : k ≤ n) (h3 : n ≤ 20) : doR (goX n) (kepF 0 (k : Int) 2 ⟨#[111, 110, 101]⟩) = (goY n k, kptF (k : Int)) := by
  have hz := goL_drop n k
  rw [doR_kep (g := 0) _ rfl, keepR_at, goX_last, if_neg (by show ¬ ((k : Int) ≤ 0 ∨ (n : Int) < (k : Int)); omega), show ((k : Int) - (goX n).2.2.1.1).toNat = k by show ((k : Int) - 0).toNat = k; omega, if_neg (by show ¬ ((1048576 : Int) < (sizeL ((goL n).drop k) : Int) + ((3 : Nat) : Int)); omega)]
  rfl

theorem goY_ok (n k : Nat) (h1 : 1 ≤ k) (h2 : k ≤ n) (h3 : n ≤ 20) : RlOk (n + 1) (goY n k) ∧ EpOk (goY n k) := by
  obtain ⟨k1, k2⟩ := goX_ok n h3
  have hF : FrOk (kepF 0 (k : Int) 2 ⟨#[111, 110, 101]⟩) := (kepF_fit inN_zero ⟨by omega, by omega⟩ ⟨by decide, by decide⟩ (by decide)).ok
  have j1 := doR_ok k1 hF
  have j2 := doR_ep k2 hF
  rw [go_kep1 n k h1 h2 h3] at j1 j2
  exact ⟨j1, j2⟩

theorem goY_last (n k : Nat) (h2 : k ≤ n) : lastL (goY n k) = (n : Int) := by
  unfold lastL goY
  show (k : Int) + (((goL n).drop k).length : Int) = _
  rw [List.length_drop, goL_len]; omega

theorem go_fet (n k : Nat) : doR (goY n k) (fetF 0 (k : Int) 1) = (goY n k, errF 210) := by
  rw [doR_fet (g := 0) _ rfl, giveR_at, if_pos (by show (k : Int) ≤ (k : Int); omega)]

theorem go_snap (n k : Nat) (h1 : 1 ≤ k) : doR (goY n k) (askF 0) = (goY n k, (8, 0, (k : Int), 2, 0, ⟨#[111, 110, 101]⟩, [], 0)) := by
  rw [doR_ask (g := 0) _ rfl]
  unfold showR
  rw [if_neg (by show ¬ ((k : Int) = 0); omega)]
  rfl

theorem go_kep2n (n k m : Nat) (h2 : k ≤ n) (h : m ≤ k ∨ n < m) : doR (goY n k) (kepF 0 (m : Int) 3 ⟨#[116, 119, 111]⟩) = (goY n k, errF 1) := by
  rw [doR_kep (g := 0) _ rfl, keepR_at, goY_last n k h2, if_pos (by show (m : Int) ≤ (k : Int) ∨ (n : Int) < (m : Int); omega)]

theorem go_kep2y (n k m : Nat) (h2 : k < m) (h3 : m ≤ n) (h4 : n ≤ 20) : doR (goY n k) (kepF 0 (m : Int) 3 ⟨#[116, 119, 111]⟩) = (goZ n k m, kptF (m : Int)) := by
  have hz := goL_drop n k
  have hz2 := sizeL_split ((goL n).drop k) (m - k)
  rw [doR_kep (g := 0) _ rfl, keepR_at, goY_last n k (by omega), if_neg (by show ¬ ((m : Int) ≤ (k : Int) ∨ (n : Int) < (m : Int)); omega), show ((m : Int) - (goY n k).2.2.1.1).toNat = m - k by show ((m : Int) - (k : Int)).toNat = m - k; omega, if_neg (by show ¬ ((1048576 : Int) < (sizeL (((goL n).drop k).drop (m - k)) : Int) + ((3 : Nat) : Int)); omega)]
  rfl

end Go.Proofs.Ytmlpbbancoedgab
