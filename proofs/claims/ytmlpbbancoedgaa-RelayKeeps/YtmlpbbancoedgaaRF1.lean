import Derived.Test.YtmlpbbancoedgaaReV
import Derived.Test.YtmlpbbancoedgaaL1
/- Layer 21 on plain data: what the laws' frames do; 'one'; masks. -/
namespace Go.Proofs.Ytmlpbbancoedgaa
open Go.RowKit
set_option maxRecDepth 100000
set_option linter.unusedSimpArgs false
set_option linter.unusedVariables false

theorem mask256r (z : Int) : ∃ q : Nat, bits .and .i64 z 255 = (q : Int) ∧ q < 256 := ⟨(z % 256).toNat, by rw [i64_mask z 8 (by decide) 255 (by decide)]; omega, by omega⟩
theorem mask1024r (z : Int) : ∃ q : Nat, bits .and .i64 z 1023 = (q : Int) ∧ q < 1024 := ⟨(z % 1024).toNat, by rw [i64_mask z 10 (by decide) 1023 (by decide)]; omega, by omega⟩

theorem zeroB_sz (n : Nat) : (zeroB n).size = n := by
  show (List.replicate n (0 : UInt8)).toArray.size = n
  simp

theorem one_any (b : Bool) (w : World) : Calls Try.prog 22 #[.bool b] w fun e w' => e = .returned (.int .i64 (if b then 1 else 0)) ∧ Below w.heap.size w w' := by
  cases b with
  | true =>
    go_enter Try.func22, Try.ntmps22
    go_wp2
    go_ret
    exact ⟨rfl, Below.refl _ _⟩
  | false =>
    go_enter Try.func22, Try.ntmps22
    go_wp2
    go_ret
    exact ⟨rfl, Below.refl _ _⟩

/-- A variable of the law's own is written. -/
theorem RlV.setRow {w0 W : World} {g : Nat} {X : RlT} {T : TypeId} {h : Nat} {cs : Array Value} (hr : RlV w0 g X W) (hb : Blk W T h cs) (hT : T ≠ 31) (hT2 : T ≠ 59) (hl : w0.heap.size ≤ h) (cs' : Array Value) : RlV w0 g X (W.setRow h cs') := by
  obtain ⟨v, h0, hv⟩ := hr.rel
  refine ⟨below_setRow hr.bel hl _, hr.lg, v, h0.setRow h (fun e => ?_) (fun e => ?_) cs', hv⟩
  · subst e; exact hT2 (blk_types hb h0.blk)
  · rcases h0.own.blk with ⟨e1, _⟩ | ⟨g', cap, cur, e1, _, hb', _⟩
    · rw [e1] at e; cases e
    · rw [e1] at e
      have e2 : g' = h := by injection e
      subst e2
      exact hT (blk_types hb hb')

theorem doR_app (X : RlT) {g : Int} (h : X.1 = g) (E : Int) (b : ByteArray) : doR X (appF g E b) = addR X (appF g E b) := by
  unfold doR
  rw [if_neg (by rw [h]; simp [appF]), if_pos (show (appF g E b).1 = 1 from rfl)]

theorem doR_fet (X : RlT) {g : Int} (h : X.1 = g) (s m : Int) : doR X (fetF g s m) = (X, giveR X (fetF g s m)) := by
  unfold doR
  rw [if_neg (by rw [h]; simp [fetF]), if_neg (show ¬ ((fetF g s m).1 = 1) by show ¬ ((3 : Int) = 1); decide), if_pos (show (fetF g s m).1 = 3 from rfl)]

theorem doR_kep (X : RlT) {g : Int} (h : X.1 = g) (s E : Int) (b : ByteArray) : doR X (kepF g s E b) = keepR X (kepF g s E b) := by
  unfold doR
  rw [if_neg (by rw [h]; simp [kepF]), if_neg (show ¬ ((kepF g s E b).1 = 1) by show ¬ ((5 : Int) = 1); decide), if_neg (show ¬ ((kepF g s E b).1 = 3) by show ¬ ((5 : Int) = 3); decide), if_pos (show (kepF g s E b).1 = 5 from rfl)]

theorem doR_ask (X : RlT) {g : Int} (h : X.1 = g) : doR X (askF g) = (X, showR X) := by
  unfold doR
  rw [if_neg (by rw [h]; simp [askF]), if_neg (show ¬ ((askF g).1 = 1) by show ¬ ((7 : Int) = 1); decide), if_neg (show ¬ ((askF g).1 = 3) by show ¬ ((7 : Int) = 3); decide), if_neg (show ¬ ((askF g).1 = 5) by show ¬ ((7 : Int) = 5); decide), if_pos (show (askF g).1 = 7 from rfl)]

theorem addR_new (X : RlT) (g E : Int) (b : ByteArray) (hs : sameA X.2.2.2 E b = none) : addR X (appF g E b) = if 1024 ≤ X.2.2.2.length then (X, errF 2) else if X.2.1 < (bytesL X : Int) + (b.size : Int) then (X, errF 211) else ((X.1, X.2.1, X.2.2.1, X.2.2.2 ++ [(lastL X + 1, E, b)]), takF (lastL X + 1)) := by
  unfold addR
  show (match sameA X.2.2.2 E b with | some i => _ | none => _) = _
  rw [hs]
  rfl

theorem addR_old (X : RlT) (g E : Int) (b : ByteArray) (i : Nat) (hs : sameA X.2.2.2 E b = some i) : addR X (appF g E b) = (X, takF (itL X.2.2.2 i).1) := by
  unfold addR
  show (match sameA X.2.2.2 E b with | some i => _ | none => _) = _
  rw [hs]

theorem keepR_at (X : RlT) (g s E : Int) (b : ByteArray) : keepR X (kepF g s E b) = if s ≤ X.2.2.1.1 ∨ lastL X < s then (X, errF 1) else if X.2.1 < (sizeL (X.2.2.2.drop (s - X.2.2.1.1).toNat) : Int) + (b.size : Int) then (X, errF 211) else ((X.1, X.2.1, (s, E, b), X.2.2.2.drop (s - X.2.2.1.1).toNat), (6, 0, s, 0, 0, ⟨#[]⟩, [], 0)) := rfl

theorem giveR_at (X : RlT) (g s m : Int) : giveR X (fetF g s m) = if s ≤ X.2.2.1.1 then errF 210 else (4, 0, 0, 0, 0, ⟨#[]⟩, firstL (X.2.2.2.drop (min s (lastL X + 1) - 1 - X.2.2.1.1).toNat) (min m 32).toNat, 0) := rfl

end Go.Proofs.Ytmlpbbancoedgaa

/- RelayGone on plain data. -/
namespace Go.Proofs.Ytmlpbbancoedgaa
open Go.RowKit
set_option maxRecDepth 100000
set_option linter.unusedSimpArgs false
set_option linter.unusedVariables false

def oneB (k : Nat) : ByteArray := ⟨(bytesOf 1 (fun _ => k)).toArray⟩
theorem oneB_size (k : Nat) : (oneB k).size = 1 := by
  unfold oneB
  show (bytesOf 1 (fun _ => k)).toArray.size = 1
  rw [List.size_toArray, bytesOf_length]
theorem oneB_inj {c d : Nat} (hc : c < 256) (hd : d < 256) (h : oneB c = oneB d) : c = d := by
  have h1 : (bytesOf 1 (fun _ => c)).toArray.toList = (bytesOf 1 (fun _ => d)).toArray.toList := congrArg (fun b => b.data.toList) h
  rw [List.toList_toArray, List.toList_toArray] at h1
  have h2 := congrArg (fun l => l[0]?) h1
  unfold bytesOf at h2
  simp at h2
  have h3 := congrArg UInt8.toNat h2
  simp at h3
  omega

theorem row_oneR (W : World) (k : Nat) : Row8 (W.alloc (.cells #[.int .u8 (k : Int)] 5)) W.heap.size 1 (fun _ => k) := by
  refine ⟨_, _, _, heap_alloc_last W _, Or.inr rfl, fun j hj => ?_⟩
  obtain rfl : j = 0 := by omega
  rfl

theorem conv_oneR {W : World} {g k : Nat} (h : Row8 W g 1 (fun _ => k)) (hk : k < 256) : (convert 51 9 (.slice (some ⟨g, 0, none⟩) 1 1)).run Try.prog W = .ok (.string (oneB k)) W :=
  Row8.conv (P := Try.prog) h (fun _ => hk) 1 1 (Nat.le_refl _) 51 9 Try.underlying51 Try.underlying5 Try.underlying9

def goL : Nat → List ItT
  | 0 => []
  | i + 1 => goL i ++ [((i : Int) + 1, 1, oneB i)]

theorem goL_len (i : Nat) : (goL i).length = i := by
  induction i with
  | zero => rfl
  | succ i ih => show (goL i ++ [_]).length = _; rw [List.length_append, ih]; rfl

theorem goL_at (i j : Nat) (h : j < i) : itL (goL i) j = ((j : Int) + 1, 1, oneB j) := by
  induction i with
  | zero => omega
  | succ i ih =>
    show itL (goL i ++ [_]) j = _
    rw [itL_snoc, goL_len]
    by_cases e : j < i
    · rw [if_pos e]; exact ih e
    · obtain rfl : j = i := by omega
      rw [if_neg e, if_pos rfl]

theorem goL_size (i : Nat) : sizeL (goL i) = i := by
  induction i with
  | zero => rfl
  | succ i ih =>
    show sizeL (goL i ++ [_]) = _
    rw [sizeL_append, ih]
    show i + ((oneB i).size + 0) = i + 1
    rw [oneB_size]

def goX (i : Nat) : RlT := (0, 1048576, (0, 0, ⟨#[]⟩), goL i)

theorem goX_last (i : Nat) : lastL (goX i) = (i : Int) := by
  unfold lastL goX
  show (0 : Int) + ((goL i).length : Int) = _
  rw [goL_len]; omega

theorem goX_bytes (i : Nat) : bytesL (goX i) = i := by
  unfold bytesL goX
  show 0 + sizeL (goL i) = i
  rw [goL_size]; omega

theorem go_add (i : Nat) (h : i < 20) : doR (goX i) (appF 0 1 (oneB i)) = (goX (i + 1), takF ((i : Int) + 1)) := by
  have hsa : sameA (goX i).2.2.2 1 (oneB i) = none := fstN_no _ _ (fun m hm => by
    have hm2 : m < (goL i).length := hm
    rw [goL_len] at hm2
    show (decide ((itL (goL i) m).2.1 = 1) && decide ((itL (goL i) m).2.2 = oneB i)) = false
    rw [goL_at i m hm2, Bool.and_eq_false_iff]
    exact .inr (decide_eq_false (fun e => by have := oneB_inj (by omega) (by omega) e; omega)))
  rw [doR_app (g := 0) _ rfl, addR_new _ _ _ _ hsa, goX_last, goX_bytes, oneB_size, if_neg (by show ¬ (1024 ≤ (goL i).length); rw [goL_len]; omega), if_neg (by show ¬ ((1048576 : Int) < (i : Int) + ((1 : Nat) : Int)); omega)]
  rfl

theorem goX_ok (i : Nat) (h : i ≤ 20) : RlOk i (goX i) ∧ EpOk (goX i) := by
  induction i with
  | zero => exact ⟨newR_ok (by decide) (by decide) (by decide) (by decide), newR_ep _ _⟩
  | succ i ih =>
    obtain ⟨h1, h2⟩ := ih (by omega)
    have hF : FrOk (appF 0 1 (oneB i)) := (appF_fit inN_zero ⟨by decide, by decide⟩ (by rw [oneB_size]; decide)).ok
    have k1 := doR_ok h1 hF
    have k2 := doR_ep h2 hF
    rw [go_add i (by omega)] at k1 k2
    exact ⟨k1, k2⟩

theorem go_ask (n : Nat) : doR (goX n) (askF 0) = (goX n, errF 3) := by
  rw [doR_ask (g := 0) _ rfl]
  rfl

def kptF (s : Int) : FrmT := (6, 0, s, 0, 0, ⟨#[]⟩, [], 0)
def goY (n k : Nat) : RlT := (0, 1048576, ((k : Int), 2, ⟨#[111, 110, 101]⟩), (goL n).drop k)
def goZ (n k m : Nat) : RlT := (0, 1048576, ((m : Int), 3, ⟨#[116, 119, 111]⟩), ((goL n).drop k).drop (m - k))

theorem goL_drop (n k : Nat) : sizeL ((goL n).drop k) ≤ n := by
  have := sizeL_split (goL n) k
  rw [goL_size] at this
  omega

theorem go_kep1 (n k : Nat) (h1 : 1 ≤ k) (h2 : k ≤ n) (h3 : n ≤ 20) : doR (goX n) (kepF 0 (k : Int) 2 ⟨#[111, 110, 101]⟩) = (goY n k, kptF (k : Int)) := by
  have hz := goL_drop n k
  rw [doR_kep (g := 0) _ rfl, keepR_at, goX_last, if_neg (by show ¬ ((k : Int) ≤ 0 ∨ (n : Int) < (k : Int)); omega), show ((k : Int) - (goX n).2.2.1.1).toNat = k by show ((k : Int) - 0).toNat = k; omega, if_neg (by show ¬ ((1048576 : Int) < (sizeL ((goL n).drop k) : Int) + ((3 : Nat) : Int)); omega)]
  rfl

theorem goY_ok (n k : Nat) (h1 : 1 ≤ k) (h2 : k ≤ n) (h3 : n ≤ 20) : RlOk (n + 1) (goY n k) ∧ EpOk (goY n k) := by
  obtain ⟨k1, k2⟩ := goX_ok n h3
  have hF : FrOk (kepF 0 (k : Int) 2 ⟨#[111, 110, 101]⟩) := (kepF_fit inN_zero ⟨by omega, by omega⟩ ⟨by decide, by decide⟩ (by decide)).ok
  have j1 := doR_ok k1 hF
  have j2 := doR_ep k2 hF
  rw [go_kep1 n k h1 h2 h3] at j1 j2
  exact ⟨j1, j2⟩

theorem goY_last (n k : Nat) (h2 : k ≤ n) : lastL (goY n k) = (n : Int) := by
  unfold lastL goY
  show (k : Int) + (((goL n).drop k).length : Int) = _
  rw [List.length_drop, goL_len]; omega

theorem go_fet (n k : Nat) : doR (goY n k) (fetF 0 (k : Int) 1) = (goY n k, errF 210) := by
  rw [doR_fet (g := 0) _ rfl, giveR_at, if_pos (by show (k : Int) ≤ (k : Int); omega)]

theorem go_snap (n k : Nat) (h1 : 1 ≤ k) : doR (goY n k) (askF 0) = (goY n k, (8, 0, (k : Int), 2, 0, ⟨#[111, 110, 101]⟩, [], 0)) := by
  rw [doR_ask (g := 0) _ rfl]
  unfold showR
  rw [if_neg (by show ¬ ((k : Int) = 0); omega)]
  rfl

theorem go_kep2n (n k m : Nat) (h2 : k ≤ n) (h : m ≤ k ∨ n < m) : doR (goY n k) (kepF 0 (m : Int) 3 ⟨#[116, 119, 111]⟩) = (goY n k, errF 1) := by
  rw [doR_kep (g := 0) _ rfl, keepR_at, goY_last n k h2, if_pos (by show (m : Int) ≤ (k : Int) ∨ (n : Int) < (m : Int); omega)]

theorem go_kep2y (n k m : Nat) (h2 : k < m) (h3 : m ≤ n) (h4 : n ≤ 20) : doR (goY n k) (kepF 0 (m : Int) 3 ⟨#[116, 119, 111]⟩) = (goZ n k m, kptF (m : Int)) := by
  have hz := goL_drop n k
  have hz2 := sizeL_split ((goL n).drop k) (m - k)
  rw [doR_kep (g := 0) _ rfl, keepR_at, goY_last n k (by omega), if_neg (by show ¬ ((m : Int) ≤ (k : Int) ∨ (n : Int) < (m : Int)); omega), show ((m : Int) - (goY n k).2.2.1.1).toNat = m - k by show ((m : Int) - (k : Int)).toNat = m - k; omega, if_neg (by show ¬ ((1048576 : Int) < (sizeL (((goL n).drop k).drop (m - k)) : Int) + ((3 : Nat) : Int)); omega)]
  rfl

end Go.Proofs.Ytmlpbbancoedgaa

/- RelayFetches on plain data. -/
namespace Go.Proofs.Ytmlpbbancoedgaa
open Go.RowKit
set_option maxRecDepth 100000
set_option linter.unusedSimpArgs false
set_option linter.unusedVariables false

def feB (i n : Nat) : ByteArray := oneB i ++ zeroB n
theorem feB_size (i n : Nat) : (feB i n).size = 1 + n := by
  unfold feB
  rw [ByteArray.size_append, oneB_size, zeroB_sz]

theorem feB_first (i n : Nat) (h : i < 256) : ∃ b : UInt8, (feB i n)[0]? = some b ∧ b.toNat = i := by
  have hs : 0 < (feB i n).size := by rw [feB_size]; omega
  refine ⟨(feB i n)[0], getElem?_pos (feB i n) 0 hs, ?_⟩
  have hd : (feB i n).data = (oneB i).data ++ (zeroB n).data := ByteArray.data_append ..
  show ((feB i n).data[0]'hs).toNat = i
  have h1 : (feB i n).data[0]? = some (UInt8.ofNat i) := by
    rw [hd, Array.getElem?_append_left (by show 0 < (oneB i).size; rw [oneB_size]; omega)]
    rfl
  have hs' : 0 < (feB i n).data.size := hs
  have h3 : (feB i n).data[0]? = some ((feB i n).data[0]'hs') := getElem?_pos _ 0 hs'
  have h2 := Option.some.inj (h3.symm.trans h1)
  rw [h2]
  show i % 256 = i
  omega

theorem feB_ne {i j n m : Nat} (hi : i < 256) (hj : j < 256) (h : feB i n = feB j m) : i = j := by
  obtain ⟨b, h1, h2⟩ := feB_first i n hi
  obtain ⟨c, h3, h4⟩ := feB_first j m hj
  rw [h, h3] at h1
  have := Option.some.inj h1
  rw [← h2, ← h4, this]

theorem index_fe (i n : Nat) (h : i < 256) (w : World) : (Instr.index 9 (.string (feB i n)) (.int .i64 0)).run Try.prog w = .ok (.int .u8 (i : Int)) w := by
  obtain ⟨b, h1, h2⟩ := feB_first i n h
  unfold Instr.index
  simp only [asIntOf, Sem.run_bind, Sem.run_pure, run_underlying Try.underlying9, Result.andThen_ok]
  rw [if_pos (by decide)]
  have e : (feB i n)[(0 : Int).toNat]? = some b := h1
  rw [e]
  simp only [Sem.run_pure, h2]

def feL (s : Nat → Nat) : Nat → List ItT
  | 0 => []
  | i + 1 => feL s i ++ [((i : Int) + 1, 1, feB i (s i))]

theorem feL_len (s : Nat → Nat) (i : Nat) : (feL s i).length = i := by
  induction i with
  | zero => rfl
  | succ i ih => show (feL s i ++ [_]).length = _; rw [List.length_append, ih]; rfl

theorem feL_at (s : Nat → Nat) (i j : Nat) (h : j < i) : itL (feL s i) j = ((j : Int) + 1, 1, feB j (s j)) := by
  induction i with
  | zero => omega
  | succ i ih =>
    show itL (feL s i ++ [_]) j = _
    rw [itL_snoc, feL_len]
    by_cases e : j < i
    · rw [if_pos e]; exact ih e
    · obtain rfl : j = i := by omega
      rw [if_neg e, if_pos rfl]

theorem feL_size (s : Nat → Nat) (hs : ∀ i, s i < 3000) (i : Nat) : sizeL (feL s i) ≤ i * 3000 := by
  induction i with
  | zero => exact Nat.zero_le _
  | succ i ih =>
    show sizeL (feL s i ++ [_]) ≤ _
    rw [sizeL_append]
    show sizeL (feL s i) + ((feB i (s i)).size + 0) ≤ _
    rw [feB_size]
    have := hs i
    omega

def feX (s : Nat → Nat) (i : Nat) : RlT := (0, 1048576, (0, 0, ⟨#[]⟩), feL s i)

theorem feX_last (s : Nat → Nat) (i : Nat) : lastL (feX s i) = (i : Int) := by
  unfold lastL feX
  show (0 : Int) + ((feL s i).length : Int) = _
  rw [feL_len]; omega

theorem fe_add (s : Nat → Nat) (hs : ∀ i, s i < 3000) (i : Nat) (h : i < 30) : doR (feX s i) (appF 0 1 (feB i (s i))) = (feX s (i + 1), takF ((i : Int) + 1)) := by
  have hsa : sameA (feX s i).2.2.2 1 (feB i (s i)) = none := fstN_no _ _ (fun m hm => by
    have hm2 : m < (feL s i).length := hm
    rw [feL_len] at hm2
    show (decide ((itL (feL s i) m).2.1 = 1) && decide ((itL (feL s i) m).2.2 = feB i (s i))) = false
    rw [feL_at s i m hm2, Bool.and_eq_false_iff]
    exact .inr (decide_eq_false (fun e => by have := feB_ne (by omega) (by omega) e; omega)))
  have hb : bytesL (feX s i) ≤ i * 3000 := by
    unfold bytesL feX
    show 0 + sizeL (feL s i) ≤ _
    have := feL_size s hs i
    omega
  have h1 := hs i
  rw [doR_app (g := 0) _ rfl, addR_new _ _ _ _ hsa, feX_last, feB_size, if_neg (by show ¬ (1024 ≤ (feL s i).length); rw [feL_len]; omega), if_neg (by show ¬ ((1048576 : Int) < (bytesL (feX s i) : Int) + ((1 + s i : Nat) : Int)); omega)]
  rfl

theorem feX_ok (s : Nat → Nat) (hs : ∀ i, s i < 3000) (i : Nat) (h : i ≤ 30) : RlOk i (feX s i) ∧ EpOk (feX s i) := by
  induction i with
  | zero => exact ⟨newR_ok (by decide) (by decide) (by decide) (by decide), newR_ep _ _⟩
  | succ i ih =>
    obtain ⟨h1, h2⟩ := ih (by omega)
    have hF : FrOk (appF 0 1 (feB i (s i))) := (appF_fit inN_zero ⟨by decide, by decide⟩ (by rw [feB_size]; have := hs i; omega)).ok
    have k1 := doR_ok h1 hF
    have k2 := doR_ep h2 hF
    rw [fe_add s hs i (by omega)] at k1 k2
    exact ⟨k1, k2⟩

/-- What comes at once. -/
def feC (s : Nat → Nat) (n t M : Nat) : List ItT := ((feL s n).drop t).take M

theorem feC_len (s : Nat → Nat) (n t M : Nat) : (feC s n t M).length = min M (n - t) := by
  unfold feC
  rw [List.length_take, List.length_drop, feL_len]

theorem feC_at (s : Nat → Nat) (n t M j : Nat) (hj : j < M) (hn : t + j < n) : itL (feC s n t M) j = (((t + j : Nat) : Int) + 1, 1, feB (t + j) (s (t + j))) := by
  unfold feC
  rw [itL_take _ _ _ hj, itL_drop, feL_at s n (t + j) hn]

theorem fe_get (s : Nat → Nat) (hs : ∀ i, s i < 3000) (n t M : Nat) (ht : t ≤ n) (hn : n ≤ 30) (hM : M ≤ 9) : doR (feX s n) (fetF 0 ((t : Int) + 1) (M : Int)) = (feX s n, (4, 0, 0, 0, 0, ⟨#[]⟩, feC s n t M, 0)) := by
  have hfit : fitL (feC s n t M) = feC s n t M := by
    unfold fitL
    have hno : fstN (fun i => decide (40000 < sizeL ((feC s n t M).take (i + 1)))) (feC s n t M).length 0 = none := fstN_no _ _ (fun m hm => by
      have h1 := sizeL_le ((feC s n t M).take (m + 1)) 3000 (fun i hi => by
        rw [List.length_take, feC_len] at hi
        rw [itL_take _ _ _ (by omega), feC_at s n t M i (by omega) (by omega)]
        show (feB (t + i) (s (t + i))).size ≤ _
        rw [feB_size]
        have := hs (t + i)
        omega)
      have h2 : ((feC s n t M).take (m + 1)).length ≤ 9 := by rw [List.length_take, feC_len]; omega
      exact decide_eq_false (by omega))
    rw [hno]
  rw [doR_fet (g := 0) _ rfl, giveR_at, feX_last, if_neg (by show ¬ ((t : Int) + 1 ≤ 0); omega)]
  show (feX s n, ((4, 0, 0, 0, 0, ⟨#[]⟩, firstL ((feL s n).drop (min ((t : Int) + 1) ((n : Int) + 1) - 1 - 0).toNat) (min (M : Int) 32).toNat, 0) : FrmT)) = _
  rw [show (min ((t : Int) + 1) ((n : Int) + 1) - 1 - 0).toNat = t by omega, show (min (M : Int) 32).toNat = M by omega]
  unfold firstL
  show (feX s n, ((4, 0, 0, 0, 0, ⟨#[]⟩, fitL (feC s n t M), 0) : FrmT)) = _
  rw [hfit]

end Go.Proofs.Ytmlpbbancoedgaa
