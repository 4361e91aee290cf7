import Derived.Test.YtmlpbbancoedgaaRF1
import Derived.Test.YtmlpbbancoedgaaReD
/- RelayKeeps on plain data; a row of texts of the law's own. -/
namespace Go.Proofs.Ytmlpbbancoedgaa
open Go.RowKit
set_option maxRecDepth 100000
set_option linter.unusedSimpArgs false
set_option linter.unusedVariables false

def keI : Nat → List ByteArray → List ItT
  | _, [] => []
  | b, x :: l => ((b : Int) + 1, 2, x) :: keI (b + 1) l

theorem keI_len (l : List ByteArray) : ∀ b, (keI b l).length = l.length := by
  induction l with
  | nil => intro b; rfl
  | cons x l ih => intro b; show (_ :: keI (b + 1) l).length = _; rw [List.length_cons, List.length_cons, ih]

theorem keI_at (l : List ByteArray) : ∀ (b j : Nat), j < l.length → itL (keI b l) j = (((b + j : Nat) : Int) + 1, 2, l.getD j ByteArray.empty) := by
  induction l with
  | nil => intro b j h; exact absurd h (Nat.not_lt_zero _)
  | cons x l ih =>
    intro b j h
    cases j with
    | zero => rfl
    | succ j =>
      show itL (keI (b + 1) l) j = _
      rw [ih (b + 1) j (by simpa using h), show b + 1 + j = b + (j + 1) by omega]
      rfl

theorem keI_app (l : List ByteArray) (x : ByteArray) : ∀ b, keI b (l ++ [x]) = keI b l ++ [(((b + l.length : Nat) : Int) + 1, 2, x)] := by
  induction l with
  | nil => intro b; rfl
  | cons y l ih =>
    intro b
    show _ :: keI (b + 1) (l ++ [x]) = _
    rw [ih (b + 1), show b + 1 + l.length = b + (y :: l).length by rw [List.length_cons]; omega]
    rfl

theorem keI_drop (l : List ByteArray) : ∀ (b k : Nat), (keI b l).drop k = keI (b + k) (l.drop k) := by
  induction l with
  | nil => intro b k; simp [keI]
  | cons x l ih =>
    intro b k
    cases k with
    | zero => simp
    | succ k =>
      show (keI (b + 1) l).drop k = keI (b + (k + 1)) (l.drop k)
      rw [ih (b + 1) k, show b + 1 + k = b + (k + 1) by omega]

theorem keI_size (l : List ByteArray) (h : ∀ x ∈ l, x.size = 5) : ∀ b, sizeL (keI b l) = 5 * l.length := by
  induction l with
  | nil => intro b; rfl
  | cons x l ih =>
    intro b
    show x.size + sizeL (keI (b + 1) l) = _
    rw [ih (fun y hy => h y (List.mem_cons_of_mem _ hy)), h x (List.mem_cons_self ..), List.length_cons]
    omega

def keX (b : Nat) (E : Int) (B : ByteArray) (log : List ByteArray) : RlT := (7, 1048576, ((b : Int), E, B), keI b (log.drop b))
def txE (log : List ByteArray) (i : Nat) : ByteArray := log.getD i ByteArray.empty

theorem txE_drop (log : List ByteArray) (b j : Nat) : (log.drop b).getD j ByteArray.empty = txE log (b + j) := by
  unfold txE
  simp [List.getD, List.getElem?_drop]

structure KeP (k b : Nat) (E : Int) (B : ByteArray) (log : List ByteArray) : Prop where
  bl : b ≤ log.length
  n : log.length ≤ k
  sz : ∀ x ∈ log, x.size = 5
  nd : ∀ i j, b ≤ i → i < j → j < log.length → txE log i ≠ txE log j
  Bs : B.size ≤ 4
  ok : RlOk (2 * k) (keX b E B log)
  ep : EpOk (keX b E B log)

theorem keX_last {b : Nat} {E : Int} {B : ByteArray} {log : List ByteArray} (h : b ≤ log.length) : lastL (keX b E B log) = (log.length : Int) := by
  unfold lastL keX
  show (b : Int) + ((keI b (log.drop b)).length : Int) = _
  rw [keI_len, List.length_drop]
  omega

theorem keX_bytes {k b : Nat} {E : Int} {B : ByteArray} {log : List ByteArray} (h : KeP k b E B log) : bytesL (keX b E B log) ≤ 4 + 5 * k := by
  unfold bytesL keX
  show B.size + sizeL (keI b (log.drop b)) ≤ _
  rw [keI_size _ (fun x hx => h.sz x (List.mem_of_mem_drop hx)), List.length_drop]
  have := h.Bs
  have := h.n
  omega

theorem RlOk.more {N M : Nat} {X : RlT} (h : RlOk N X) (hNM : N ≤ M) : RlOk M X := ⟨h.g0, h.g1, h.q0, h.q1, h.b0, by have := h.last; omega, h.many, h.bytes, h.seq, h.sm, h.sk⟩

theorem ke_old {k b : Nat} {E : Int} {B : ByteArray} {log : List ByteArray} (h : KeP k b E B log) (x : ByteArray) (m : Nat) (h1 : b ≤ m) (h2 : m < log.length) (h3 : txE log m = x) : doR (keX b E B log) (appF 7 2 x) = (keX b E B log, takF ((m : Int) + 1)) := by
  have hat : ∀ j, j < log.length - b → itL (keX b E B log).2.2.2 j = (((b + j : Nat) : Int) + 1, 2, txE log (b + j)) := fun j hj => by
    show itL (keI b (log.drop b)) j = _
    rw [keI_at _ b j (by rw [List.length_drop]; exact hj), txE_drop]
  have hl : (keX b E B log).2.2.2.length = log.length - b := by show (keI b (log.drop b)).length = _; rw [keI_len, List.length_drop]
  have hsa : sameA (keX b E B log).2.2.2 2 x = some (m - b) := by
    unfold sameA
    refine fstN_at _ _ (m - b) (by rw [hl]; omega) ?_ (fun j hj => ?_)
    · rw [hat (m - b) (by omega), show b + (m - b) = m by omega, Bool.and_eq_true]
      exact ⟨decide_eq_true rfl, decide_eq_true h3⟩
    · rw [hat j (by omega), Bool.and_eq_false_iff]
      exact .inr (decide_eq_false (fun e => h.nd (b + j) m (by omega) (by omega) h2 (e.trans h3.symm)))
  rw [doR_app (g := 7) _ rfl, addR_old _ _ _ _ _ hsa, hat (m - b) (by omega), show b + (m - b) = m by omega]

theorem ke_new {k b : Nat} {E : Int} {B : ByteArray} {log : List ByteArray} (h : KeP k b E B log) (hk : k < 200) (x : ByteArray) (hx : x.size = 5) (hno : ∀ m, b ≤ m → m < log.length → txE log m ≠ x) :
    doR (keX b E B log) (appF 7 2 x) = (keX b E B (log ++ [x]), takF ((log.length : Int) + 1)) ∧ KeP (k + 1) b E B (log ++ [x]) := by
  have hl : (keX b E B log).2.2.2.length = log.length - b := by show (keI b (log.drop b)).length = _; rw [keI_len, List.length_drop]
  have hsa : sameA (keX b E B log).2.2.2 2 x = none := fstN_no _ _ (fun j hj => by
    rw [hl] at hj
    show (decide ((itL (keI b (log.drop b)) j).2.1 = 2) && decide ((itL (keI b (log.drop b)) j).2.2 = x)) = false
    rw [keI_at _ b j (by rw [List.length_drop]; exact hj), txE_drop, Bool.and_eq_false_iff]
    exact .inr (decide_eq_false (hno (b + j) (by omega) (by omega))))
  have hb := keX_bytes h
  have hn := h.n
  have hbl := h.bl
  have hd : doR (keX b E B log) (appF 7 2 x) = (keX b E B (log ++ [x]), takF ((log.length : Int) + 1)) := by
    rw [doR_app (g := 7) _ rfl, addR_new _ _ _ _ hsa, keX_last hbl, hx, if_neg (by rw [hl]; omega), if_neg (by show ¬ ((1048576 : Int) < (bytesL (keX b E B log) : Int) + ((5 : Nat) : Int)); omega)]
    show ((((7 : Int), (1048576 : Int), ((b : Int), E, B), keI b (log.drop b) ++ [((log.length : Int) + 1, (2 : Int), x)]) : RlT), _) = _
    unfold keX
    rw [List.drop_append_of_le_length hbl, keI_app, List.length_drop, show b + (log.length - b) = log.length by omega]
  have hF : FrOk (appF 7 2 x) := (appF_fit ⟨by decide, by decide⟩ ⟨by decide, by decide⟩ (by omega)).ok
  have k1 := doR_ok h.ok hF
  have k2 := doR_ep h.ep hF
  rw [hd] at k1 k2
  refine ⟨hd, ⟨by rw [List.length_append]; omega, by rw [List.length_append]; simp; omega, fun y hy => ?_, fun i j h1 h2 h3 => ?_, h.Bs, k1.more (by omega), k2⟩⟩
  · rcases List.mem_append.1 hy with e | e
    · exact h.sz y e
    · rw [List.mem_singleton.1 e]; exact hx
  · rw [List.length_append] at h3
    simp at h3
    have hi : txE (log ++ [x]) i = txE log i := by unfold txE; simp [List.getD, List.getElem?_append_left (show i < log.length by omega)]
    rw [hi]
    by_cases e : j < log.length
    · have hj : txE (log ++ [x]) j = txE log j := by unfold txE; simp [List.getD, List.getElem?_append_left e]
      rw [hj]
      exact h.nd i j h1 h2 e
    · obtain rfl : j = log.length := by omega
      have hj : txE (log ++ [x]) log.length = x := by unfold txE; simp [List.getD]
      rw [hj]
      exact hno i h1 (by omega)

theorem ke_kepN {k b : Nat} {E : Int} {B : ByteArray} {log : List ByteArray} (h : KeP k b E B log) (n : Nat) (hn : n ≤ b ∨ log.length < n) : doR (keX b E B log) (kepF 7 (n : Int) 2 ⟨#[115, 110, 97, 112]⟩) = (keX b E B log, errF 1) := by
  rw [doR_kep (g := 7) _ rfl, keepR_at, keX_last h.bl, if_pos (by show (n : Int) ≤ (b : Int) ∨ (log.length : Int) < (n : Int); omega)]

theorem ke_kepY {k b : Nat} {E : Int} {B : ByteArray} {log : List ByteArray} (h : KeP k b E B log) (hk : k ≤ 200) (n : Nat) (h1 : b < n) (h2 : n ≤ log.length) :
    doR (keX b E B log) (kepF 7 (n : Int) 2 ⟨#[115, 110, 97, 112]⟩) = (keX n 2 ⟨#[115, 110, 97, 112]⟩ log, kptF (n : Int)) ∧ RlOk (2 * k + 1) (keX n 2 ⟨#[115, 110, 97, 112]⟩ log) ∧ EpOk (keX n 2 ⟨#[115, 110, 97, 112]⟩ log) := by
  have hn := h.n
  have hz : sizeL ((keI b (log.drop b)).drop (n - b)) ≤ 5 * k := by
    rw [keI_drop, keI_size _ (fun x hx => h.sz x (List.mem_of_mem_drop (List.mem_of_mem_drop hx))), List.length_drop, List.length_drop]
    omega
  have hd : doR (keX b E B log) (kepF 7 (n : Int) 2 ⟨#[115, 110, 97, 112]⟩) = (keX n 2 ⟨#[115, 110, 97, 112]⟩ log, kptF (n : Int)) := by
    rw [doR_kep (g := 7) _ rfl, keepR_at, keX_last h.bl, if_neg (by show ¬ ((n : Int) ≤ (b : Int) ∨ (log.length : Int) < (n : Int)); omega), show ((n : Int) - (keX b E B log).2.2.1.1).toNat = n - b by show ((n : Int) - (b : Int)).toNat = n - b; omega, if_neg (by show ¬ ((1048576 : Int) < (sizeL ((keI b (log.drop b)).drop (n - b)) : Int) + ((4 : Nat) : Int)); omega)]
    show ((((7 : Int), (1048576 : Int), ((n : Int), (2 : Int), (⟨#[115, 110, 97, 112]⟩ : ByteArray)), (keI b (log.drop b)).drop (n - b)) : RlT), _) = _
    unfold keX
    rw [keI_drop, List.drop_drop, show b + (n - b) = n by omega]
    rfl
  have hF : FrOk (kepF 7 (n : Int) 2 ⟨#[115, 110, 97, 112]⟩) := (kepF_fit ⟨by decide, by decide⟩ ⟨by omega, by omega⟩ ⟨by decide, by decide⟩ (by decide)).ok
  have k1 := doR_ok h.ok hF
  have k2 := doR_ep h.ep hF
  rw [hd] at k1 k2
  exact ⟨hd, k1, k2⟩

theorem KeP.kept {k b n : Nat} {E : Int} {B : ByteArray} {log : List ByteArray} (h : KeP k b E B log) (h1 : b < n) (h2 : n ≤ log.length) (k1 : RlOk (2 * k + 1) (keX n 2 ⟨#[115, 110, 97, 112]⟩ log)) (k2 : EpOk (keX n 2 ⟨#[115, 110, 97, 112]⟩ log)) : KeP (k + 1) n 2 ⟨#[115, 110, 97, 112]⟩ log :=
  ⟨h2, by have := h.n; omega, h.sz, fun i j x y z => h.nd i j (by omega) y z, by decide, k1.more (by omega), k2⟩

theorem KeP.same {k b : Nat} {E : Int} {B : ByteArray} {log : List ByteArray} (h : KeP k b E B log) : KeP (k + 1) b E B log :=
  ⟨h.bl, by have := h.n; omega, h.sz, h.nd, h.Bs, h.ok.more (by omega), h.ep⟩

end Go.Proofs.Ytmlpbbancoedgaa

/- RelayKeeps: the log, a row of texts of the law's own, beside a relay. -/
namespace Go.Proofs.Ytmlpbbancoedgaa
open Go.RowKit
set_option maxRecDepth 100000
set_option linter.unusedSimpArgs false
set_option linter.unusedVariables false

theorem Try.infoStrK : (Try.prog.info? 9).map (fun i => (i.zero, i.size, i.bytes)) = some (some (.string ⟨#[]⟩), 1, 16) := by kernel_rfl

def LogO (w : World) (B : Nat) (v : Value) (log : List ByteArray) : Prop := w.ownsRow B 9 1 v log.length (log.map Value.string)

theorem LogO.blk {w : World} {B : Nat} {v : Value} {log : List ByteArray} (h : LogO w B v log) : (v = .slice none 0 0 ∧ log = []) ∨ ∃ g cap cur, v = .slice (some ⟨g, 0, none⟩) log.length cap ∧ B ≤ g ∧ Blk w 9 g cur ∧ log.length ≤ cap ∧ cap ≤ maxLen ∧ cur.size = cap * 1 ∧ cur.toList.take (log.length * 1) = log.map Value.string := by
  rcases h.2 with ⟨rfl, h0⟩ | ⟨g, cap, cur, h1, h2, h3, h4, h5, h6, h7⟩
  · exact .inl ⟨rfl, List.length_eq_zero_iff.1 h0⟩
  · exact .inr ⟨g, cap, cur, h1, h2, h3, h4, h5, h6, h7⟩

theorem LogO.ot {w w' : World} {B : Nat} {v : Value} {log : List ByteArray} (h : LogO w B v log) (ho : Ot w w') : LogO w' B v log := by
  refine ⟨h.1, ?_⟩
  rcases h.2 with h0 | ⟨g, cap, cur, h1, h2, h3, h4⟩
  · exact .inl h0
  · exact .inr ⟨g, cap, cur, h1, h2, ho _ _ _ (by decide) (by decide) h3, h4⟩

theorem LogO.on {w w' : World} {B : Nat} {v : Value} {log : List ByteArray} (h : LogO w B v log) (hb : Below w.heap.size w w') : LogO w' B v log := h.ot (Ot.ofBelow hb)

/-- The log as it is read. -/
theorem LogO.rows {w : World} {B : Nat} {v : Value} {log : List ByteArray} (h : LogO w B v log) : ∃ a cap, v = .slice a log.length cap ∧ log.length ≤ cap ∧ cap ≤ 9223372036854775807 ∧ ∀ i, i < log.length → ∃ g, a = some ⟨g, 0, none⟩ ∧ w.cell? ⟨g, i, none⟩ = some (.string (txE log i)) := by
  rcases h.blk with ⟨rfl, rfl⟩ | ⟨g, cap, cur, rfl, _, h3, h4, h5, h6, h7⟩
  · exact ⟨none, 0, rfl, Nat.le_refl _, by decide, fun i hi => absurd hi (Nat.not_lt_zero _)⟩
  · refine ⟨_, cap, rfl, h4, h5, fun i hi => ⟨g, rfl, ?_⟩⟩
    rw [h3.cell]
    have h8 : (cur.toList.take (log.length * 1))[i]? = (log.map Value.string)[i]? := by rw [h7]
    rw [List.getElem?_take_of_lt (by omega), List.getElem?_map, List.getElem?_eq_getElem hi] at h8
    rw [← Array.getElem?_toList, h8]
    unfold txE
    simp [List.getD, List.getElem?_eq_getElem hi]

theorem RlV.grown {w0 W W' : World} {g : Nat} {X : RlT} {r : Option Nat} (hr : RlV w0 g X W) (hg : W.grownBy W' r) (hT : ∀ k, r = some k → w0.heap.size ≤ k ∧ ∃ T cs, Blk W T k cs ∧ T ≠ 31 ∧ T ≠ 59) : RlV w0 g X W' := by
  obtain ⟨v, h0, hv⟩ := hr.rel
  have h1 : some g ≠ r := fun e => by
    obtain ⟨_, T, cs, hb, _, hT2⟩ := hT g e.symm
    exact hT2 (blk_types hb h0.blk)
  have h2 : ∀ j, v.ownBlock = some j → some j ≠ r := fun j hj e => by
    obtain ⟨_, T, cs, hb, hT1, _⟩ := hT j e.symm
    rcases h0.own.blk with ⟨e1, _⟩ | ⟨g', cap, cur, e1, _, hb', _⟩
    · rw [e1] at hj; cases hj
    · rw [e1] at hj
      have e2 : g' = j := by injection hj
      subst e2
      exact hT1 (blk_types hb hb')
  exact ⟨hr.bel.grown hg hr.bel.size (fun k hk => (hT k hk).1), hr.lg, v, ⟨h0.blk.grown hg h1, owns_same h0.own (fun j hj => hg.block j (World.ownsRow.lt h0.own j hj).2 (h2 j hj)), h0.ne⟩, hv⟩

/-- A text is put behind the log. -/
theorem log_append {w0 W : World} {g : Nat} {X : RlT} {v : Value} {log : List ByteArray} (hr : RlV w0 g X W) (hl : LogO W w0.heap.size v log) (x : ByteArray) (hn : log.length ≤ 1000) :
    ∃ v' w', (∀ ty, (Builtin.append_ #[24, 24] ty #[v, .slice (some ⟨W.heap.size, 0, none⟩) 1 1]).run Try.prog (W.alloc (.cells #[.string x] 9)) = .ok v' w') ∧ LogO w' w0.heap.size v' (log ++ [x]) ∧ RlV w0 g X w' := by
  obtain ⟨i0, hi, hz0, hz1, hz2⟩ := info_parts Try.infoStrK
  have hb1 : Below W.heap.size W (W.alloc (.cells #[.string x] 9)) := below_new _ _
  have hr1 := hr.on hb1
  have hl1 := hl.on hb1
  have hX : Blk (W.alloc (.cells #[.string x] 9)) 9 W.heap.size #[.string x] := Blk.new _ _ _
  obtain ⟨v', w', k1, k2, k3, _⟩ := run_append_own (P := Try.prog) (W.alloc (.cells #[.string x] 9)) w0.heap.size 24 0 9 i0 _ 1 16 Try.underlying24 hi hz0 hz1 hz2 rfl (by decide) v log.length _ hl1 ⟨W.heap.size, 0, none⟩ 1 1 [.string x] rfl (fun j u hj => by
    rw [Go.WideShapes.add_plain, Nat.zero_add, hX.cell]
    rw [← Array.getElem?_toList]; exact hj) (fun u hu => by rw [List.mem_singleton.1 hu]; rfl) (by unfold maxLen; omega) (by omega) hr1.bel.size
  refine ⟨v', w', fun ty => k1, ?_, hr1.grown k3 (fun k hk => ?_)⟩
  · unfold LogO
    rw [List.length_append, List.map_append]
    exact k2
  · rcases hl1.blk with ⟨e, _⟩ | ⟨g', cap, cur, e, h2, h3, _⟩
    · rw [e] at hk; cases hk
    · rw [e] at hk
      have e2 : g' = k := by injection hk
      subst e2
      exact ⟨h2, _, _, h3, by decide, by decide⟩

end Go.Proofs.Ytmlpbbancoedgaa
