import Derived.Test.YtebnmghjdoblaaaGreatDoorTX
import Derived.Test.YtebnmghjdoblaaaGreatDoorVC
import Derived.Test.YtebnmghjdoblaaaGreatDoorTk
import Derived.Test.YtebnmghjdoblaaaGreatDoorVH
import Derived.Test.YtebnmghjdoblaaaGreatDoorTS
import Derived.Deep.DeepCutAuto
/- Layer 11 on plain data: operations turned about, and the other way round. -/
namespace Go.Proofs.YtebnmghjdoblaaaGreatDoor
open Go.RowKit
set_option linter.unusedSimpArgs false

theorem oL_mem (l : List OpT) (i : Nat) (h : i < l.length) : oL l i ∈ l := by
  have e : oL l i = l[i] := by unfold oL; rw [List.getD_eq_getElem?_getD, List.getElem?_eq_getElem h]; rfl
  rw [e]; exact List.getElem_mem h

theorem mem_oL (l : List OpT) (x : OpT) (h : x ∈ l) : ∃ i, i < l.length ∧ x = oL l i := by
  obtain ⟨i, hi, rfl⟩ := List.getElem_of_mem h
  exact ⟨i, hi, by unfold oL; rw [List.getD_eq_getElem?_getD, List.getElem?_eq_getElem hi]; rfl⟩

theorem take_oL (l : List OpT) (k : Nat) (h : k < l.length) : l.take (k + 1) = l.take k ++ [oL l k] := by
  have e : oL l k = l[k] := by unfold oL; rw [List.getD_eq_getElem?_getD, List.getElem?_eq_getElem h]; rfl
  rw [e]; exact List.take_succ_eq_append_getElem h

def rotL (l : List OpT) (t n : Nat) : Nat → List OpT
  | 0 => []
  | k + 1 => rotL l t n k ++ [oL l ((k + t) % n)]

def revL (l : List OpT) (n : Nat) : Nat → List OpT
  | 0 => []
  | k + 1 => (revL l n k ++ [oL l (n - 1 - k)]) ++ [oL l (n - 1 - k)]

theorem rotL_len (l : List OpT) (t n k : Nat) : (rotL l t n k).length = k := by
  induction k with
  | zero => rfl
  | succ k ih => show (rotL l t n k ++ _).length = _; rw [List.length_append, ih]; rfl

theorem revL_len (l : List OpT) (n k : Nat) : (revL l n k).length = 2 * k := by
  induction k with
  | zero => rfl
  | succ k ih => show ((revL l n k ++ _) ++ _).length = _; rw [List.length_append, List.length_append, ih]; show 2 * k + 1 + 1 = _; omega

theorem rotL_mem (l : List OpT) (t n k : Nat) (x : OpT) : x ∈ rotL l t n k ↔ ∃ i, i < k ∧ x = oL l ((i + t) % n) := by
  induction k with
  | zero => exact ⟨fun h => absurd h List.not_mem_nil, fun ⟨i, hi, _⟩ => absurd hi (Nat.not_lt_zero _)⟩
  | succ k ih =>
    show x ∈ rotL l t n k ++ [_] ↔ _
    rw [List.mem_append, List.mem_singleton, ih]
    constructor
    · rintro (⟨i, hi, e⟩ | e)
      · exact ⟨i, by omega, e⟩
      · exact ⟨k, by omega, e⟩
    · rintro ⟨i, hi, e⟩
      by_cases h : i = k
      · rw [h] at e; exact .inr e
      · exact .inl ⟨i, by omega, e⟩

theorem revL_mem (l : List OpT) (n k : Nat) (x : OpT) : x ∈ revL l n k ↔ ∃ i, i < k ∧ x = oL l (n - 1 - i) := by
  induction k with
  | zero => exact ⟨fun h => absurd h List.not_mem_nil, fun ⟨i, hi, _⟩ => absurd hi (Nat.not_lt_zero _)⟩
  | succ k ih =>
    show x ∈ (revL l n k ++ [_]) ++ [_] ↔ _
    rw [List.mem_append, List.mem_append, List.mem_singleton, ih]
    constructor
    · rintro ((⟨i, hi, e⟩ | e) | e)
      · exact ⟨i, by omega, e⟩
      · exact ⟨k, by omega, e⟩
      · exact ⟨k, by omega, e⟩
    · rintro ⟨i, hi, e⟩
      by_cases h : i = k
      · rw [h] at e; exact .inr e
      · exact .inl (.inl ⟨i, by omega, e⟩)

theorem rot_all (l : List OpT) (t : Nat) (x : OpT) : x ∈ l ↔ x ∈ rotL l t l.length l.length := by
  rw [rotL_mem]
  constructor
  · intro h
    obtain ⟨j, hj, e⟩ := mem_oL l x h
    have ht := Nat.mod_lt t (show 0 < l.length by omega)
    refine ⟨(j + (l.length - t % l.length)) % l.length, Nat.mod_lt _ (by omega), ?_⟩
    rw [e]
    congr 1
    rw [Nat.mod_add_mod]
    have h1 : j + (l.length - t % l.length) + t = j + l.length * (1 + t / l.length) := by
      have h2 := Nat.div_add_mod t l.length
      rw [Nat.mul_add, Nat.mul_one]
      omega
    rw [h1, Nat.add_mul_mod_self_left, Nat.mod_eq_of_lt hj]
  · rintro ⟨i, hi, rfl⟩
    exact oL_mem l _ (Nat.mod_lt _ (by omega))

theorem rev_all (l : List OpT) (x : OpT) : x ∈ l ↔ x ∈ revL l l.length l.length := by
  rw [revL_mem]
  constructor
  · intro h
    obtain ⟨j, hj, e⟩ := mem_oL l x h
    exact ⟨l.length - 1 - j, by omega, by rw [e]; congr 1; omega⟩
  · rintro ⟨i, hi, rfl⟩
    exact oL_mem l _ (by omega)

abbrev T0 : TreeT := ([], [], (0, 0))

theorem play_len (M : OpT → Bool) (l : List OpT) (h : l.length ≤ 512) : (playP M T0 l).1.length + (playP M T0 l).2.1.length ≤ 512 := by
  have s := stands_play M [] (0, 0) l (by simpa using h)
  have h1 := s.fx
  have h2 := s.len
  have h3 : (playP M ([], [], (0, 0)) l).1.length = 0 := by rw [h1]; rfl
  show (playP M ([], [], (0, 0)) l).1.length + (playP M ([], [], (0, 0)) l).2.1.length ≤ _
  omega

theorem play_fx (M : OpT → Bool) (l : List OpT) (h : l.length ≤ 512) : (playP M T0 l).1 = [] := (stands_play M [] (0, 0) l (by simpa using h)).fx

theorem play_may (M : OpT → Bool) (hM : ∀ o, M o = true ↔ MayO o) (l : List OpT) (h : l.length ≤ 512) : ∀ o ∈ (playP M T0 l).2.1, MayO o := fun o ho => (hM o).1 ((stands_play M [] (0, 0) l (by simpa using h)).mem o ho).2.1

theorem play_rooted (M : OpT → Bool) (hM : ∀ o, M o = true ↔ MayO o) (l : List OpT) (h : l.length ≤ 512) : Rooted (nodesP (playP M T0 l).1 (playP M T0 l).2.1) := by
  rw [play_fx M l h]
  exact rooted_nodes rooted_nil _ (play_may M hM l h)

theorem orders_rot (M : OpT → Bool) (l : List OpT) (t : Nat) (h : l.length ≤ 512) (hone : ∀ x ∈ l, ∀ y ∈ l, x.2.1 = y.2.1 → x = y) : playP M T0 l = playP M T0 (rotL l t l.length l.length) :=
  play_order (stands_play M [] (0, 0) l (by simpa using h)) (stands_play M [] (0, 0) _ (by rw [rotL_len]; simpa using h)) (rot_all l t) hone

theorem orders_rev (M : OpT → Bool) (l : List OpT) (h : l.length ≤ 256) (hone : ∀ x ∈ l, ∀ y ∈ l, x.2.1 = y.2.1 → x = y) : playP M T0 l = playP M T0 (revL l l.length l.length) :=
  play_order (stands_play M [] (0, 0) l (by simp; omega)) (stands_play M [] (0, 0) _ (by rw [revL_len]; simp; omega)) (rev_all l) hone

end Go.Proofs.YtebnmghjdoblaaaGreatDoor

/- The nodes of a tree of operations may be a tree's, as view asks (layer 12). -/
namespace Go.Proofs.YtebnmghjdoblaaaGreatDoor
set_option linter.unusedSimpArgs false

/-- What a node has besides. -/
def NdV (x : NodeT) : Prop := NameP x.2.2.1 ∧ x.2.2.2.size ≤ 64 ∧ x.2.2.1.size ≤ 200

theorem do_okV {l : List NodeT} {o : OpT} (hl : ∀ x ∈ l, NdV x) (hm : MayO o) (hL : LightO o) : ∀ x ∈ doP l o, NdV x := by
  obtain ⟨hAt, hNo, hk⟩ := hm
  obtain ⟨l1, l2⟩ := hL
  unfold doP
  simp only [withP_R]
  have put : ∀ n : NodeT, NdV n → ∀ x ∈ withR n l, NdV x := fun n hn x hx => by
    rcases (withR_mem n l x).1 hx with rfl | ⟨hx, _⟩
    · exact hn
    · exact hl x hx
  by_cases k1 : o.1 = 1
  · rw [if_pos k1]
    by_cases hf : 0 ≤ findI l o.2.2.1
    · rw [if_pos hf]; exact hl
    · rw [if_neg hf]
      by_cases ht : thereP l (parO o) = true
      · rw [if_pos ht]
        refine put _ ?_
        rcases hk with ⟨_, _, _, h4, _⟩ | ⟨h1, _⟩ | ⟨h1, _⟩ | ⟨h1, _⟩ | ⟨h1, _⟩
        · exact ⟨h4, Nat.zero_le _, l1⟩
        all_goals omega
      · rw [if_neg ht]; exact hl
  · rw [if_neg k1]
    by_cases hf : findI l o.2.2.1 < 0
    · rw [if_pos hf]; exact hl
    · rw [if_neg hf]
      obtain ⟨hx, hid⟩ := findI_is hf
      obtain ⟨x2, x3, x4⟩ := hl _ hx
      by_cases k3 : o.1 = 3
      · rw [if_pos k3]
        refine put _ ?_
        rcases hk with ⟨h1, _⟩ | ⟨h1, _⟩ | ⟨_, _, h3, _⟩ | ⟨h1, _⟩ | ⟨h1, _⟩
        · omega
        · omega
        · exact ⟨h3, x3, l1⟩
        all_goals omega
      · rw [if_neg k3]
        by_cases k4 : o.1 = 4
        · rw [if_pos k4]
          refine put _ ?_
          rcases hk with ⟨h1, _⟩ | ⟨h1, _⟩ | ⟨h1, _⟩ | ⟨_, _, _, h4⟩ | ⟨h1, _⟩
          · omega
          · omega
          · omega
          · exact ⟨x2, h4, x4⟩
          · omega
        · rw [if_neg k4]
          by_cases ht : thereP l (parO o) = true
          · rw [if_pos ht]
            by_cases hu : underF l o.2.2.1 (l.length + 1) (parO o) = true
            · rw [if_pos hu]; exact hl
            · rw [if_neg hu]
              exact put _ ⟨x2, x3, x4⟩
          · rw [if_neg ht]; exact hl

theorem nodes_okV (ops : List OpT) : ∀ (l : List NodeT), (∀ x ∈ l, NdV x) → (∀ o ∈ ops, MayO o ∧ LightO o) → ∀ x ∈ nodesP l ops, NdV x := by
  induction ops with
  | nil => intro l hl _; exact hl
  | cons o ops ih =>
    intro l hl h
    obtain ⟨h1, h2⟩ := h o (List.mem_cons_self ..)
    show ∀ x ∈ nodesP (doP l o) ops, NdV x
    exact ih _ (do_okV hl h1 h2) (fun x hx => h x (List.mem_cons_of_mem _ hx))


theorem rooted_up {l : List NodeT} (h : Rooted l) : ∀ x ∈ l, ∃ r : Int × Int, (r.1 = 0 ∧ ParS r) ∧ ∃ j, UpTo l r j x.1 := by
  obtain ⟨rk, hrk⟩ := h.rank
  have main : ∀ k, ∀ x ∈ l, rk x.1 ≤ k → ∃ r : Int × Int, (r.1 = 0 ∧ ParS r) ∧ ∃ j, UpTo l r j x.1 := by
    intro k
    induction k with
    | zero =>
      intro x hx hk
      obtain ⟨hp, h0 | ⟨y, hy, e⟩⟩ := h.par x hx
      · exact ⟨x.2.1, ⟨h0, hp⟩, 1, x, hx, rfl, rfl⟩
      · have := hrk x hx y hy e; omega
    | succ k ih =>
      intro x hx hk
      obtain ⟨hp, h0 | ⟨y, hy, e⟩⟩ := h.par x hx
      · exact ⟨x.2.1, ⟨h0, hp⟩, 1, x, hx, rfl, rfl⟩
      · have := hrk x hx y hy e
        obtain ⟨r, hr, j, hj⟩ := ih y hy (by omega)
        exact ⟨r, hr, j + 1, x, hx, rfl, by rw [← e]; exact hj⟩
  exact fun x hx => main (rk x.1) x hx (Nat.le_refl _)

theorem mayV_rooted {l : List NodeT} (h : Rooted l) (hn : ∀ x ∈ l, NdV x) (hl : l.length ≤ 512) : MayV l := by
  have hE : EachV l := fun k hk => by
    have hx : nL l k ∈ l := by rw [nL_getE l k hk]; exact List.getElem_mem hk
    obtain ⟨n1, n2, _⟩ := hn _ hx
    refine ⟨h.may _ hx, fun h0 => ?_, n1, n2⟩
    have hp := List.pairwise_iff_getElem.1 h.sort (k - 1) k (by omega) hk (by omega)
    rw [nL_getE l k hk, nL_getE l (k - 1) (by omega)]
    exact hp
  refine ⟨hl, hE, fun k hk => ?_⟩
  have hx : nL l k ∈ l := by rw [nL_getE l k hk]; exact List.getElem_mem hk
  obtain ⟨r, ⟨hr, hp⟩, j, hj⟩ := rooted_up h _ hx
  have hnd := each_nodup hE
  have ho := each_out hE hr
  have hf := upTo_few hnd ho hj
  rw [up_topF hnd ho j (l.length + 1) _ (by omega) hj]
  refine ⟨hr, ?_⟩
  unfold ParS at hp
  omega

theorem play_mayV (M : OpT → Bool) (hM : ∀ o, M o = true ↔ MayO o) (l : List OpT) (h : l.length ≤ 80) (hL : ∀ o ∈ l, LightO o) :
    MayV (nodesP (playP M T0 l).1 (playP M T0 l).2.1) ∧ (nodesP (playP M T0 l).1 (playP M T0 l).2.1).length ≤ 80 ∧ ∀ x ∈ nodesP (playP M T0 l).1 (playP M T0 l).2.1, NdV x := by
  have hs := stands_play M [] (0, 0) l (by simpa using (by omega : l.length ≤ 512))
  have hfx := play_fx M l (by omega)
  have hlen : (nodesP (playP M T0 l).1 (playP M T0 l).2.1).length ≤ 80 := by
    have h1 := nodesP_len (playP M T0 l).1 (playP M T0 l).2.1
    have h2 := hs.len
    rw [hfx] at h1 ⊢
    exact Nat.le_trans h1 (by simpa using Nat.le_trans h2 h)
  have hN : ∀ x ∈ nodesP (playP M T0 l).1 (playP M T0 l).2.1, NdV x := by
    rw [hfx]
    exact nodes_okV _ [] (fun x hx => absurd hx List.not_mem_nil) (fun o ho => ⟨play_may M hM l (by omega) o ho, hL o (hs.mem o ho).1⟩)
  exact ⟨mayV_rooted (play_rooted M hM l (by omega)) hN (by omega), hlen, hN⟩
end Go.Proofs.YtebnmghjdoblaaaGreatDoor

/- made, of layer 12's laws: the nodes of operations, by the document. -/
namespace Go.Proofs.YtebnmghjdoblaaaGreatDoor
open Go.RowKit
set_option linter.unusedSimpArgs false

structure KeptF (F : Nat → Prop) (w w' : World) : Prop where
  os : w'.os = w.os
  tape : w'.tape = w.tape
  output : w'.output = w.output
  size : w.heap.size ≤ w'.heap.size
  block : ∀ k, k < w.heap.size → ¬ F k → w'.heap[k]? = w.heap[k]?

theorem KeptF.refl (F : Nat → Prop) (w : World) : KeptF F w w := ⟨rfl, rfl, rfl, Nat.le_refl _, fun _ _ _ => rfl⟩

theorem KeptF.grown {F : Nat → Prop} {a b c : World} {r : Option Nat} (h : KeptF F a b) (k : b.grownBy c r) (hr : ∀ j, r = some j → j < a.heap.size → F j) : KeptF F a c :=
  ⟨k.os.trans h.os, k.tape.trans h.tape, k.output.trans h.output, Nat.le_trans h.size k.size, fun j hj hF => (k.block j (Nat.lt_of_lt_of_le hj h.size) (fun e => hF (hr j e.symm hj))).trans (h.block j hj hF)⟩

theorem cell_of_block {w w' : World} {b : Nat} (h : w'.heap[b]? = w.heap[b]?) (o : Nat) : w'.cell? ⟨b, o, none⟩ = w.cell? ⟨b, o, none⟩ := by
  unfold World.cell?
  simp only [h]

/-- A row that is not empty has a block that is not among some. -/
def Far (F : Nat → Prop) (n : Nat) (a : Option Addr) : Prop := 0 < n → ∀ x, a = some x → ¬ F x.block

theorem rows_kept {F : Nat → Prop} {w w' : World} {a : Option Addr} {n c : Nat} {f : Nat → Array Value} (h : RowsAt w a n c f) (hF : Far F n a) (hK : KeptF F w w') : RowsAt w' a n c f := by
  rcases h with h0 | ⟨b, off, ha, hc⟩
  · exact .inl h0
  · by_cases hn : n = 0
    · exact .inl hn
    · refine .inr ⟨b, off, ha, fun i hi j hj => ?_⟩
      obtain ⟨u, h1, h2⟩ := hc i hi j hj
      refine ⟨u, h1, ?_⟩
      rw [cell_of_block (hK.block b (World.block_lt_of_cell? w _ h2) (hF (by omega) _ ha))]
      exact h2

/-- The document's tree, no row of which is among some blocks. -/
def TreeG (F : Nat → Prop) (w : World) (v : Value) (t : TreeT) : Prop := ∃ a1 c1 a2 c2, v = .agg #[.slice a1 t.1.length c1, .slice a2 t.2.1.length c2, .int .i64 t.2.2.1, .int .i64 t.2.2.2] ∧ NodesAt w a1 t.1.length t.1 ∧ OpsAt w a2 t.2.1.length t.2.1 ∧ SliceOk a2 t.2.1.length c2 ∧ Far F t.1.length a1 ∧ Far F t.2.1.length a2

theorem TreeG.v {F : Nat → Prop} {w : World} {v : Value} {t : TreeT} (h : TreeG F w v t) : TreeV w v t := by
  obtain ⟨a1, c1, a2, c2, h1, h2, h3, h4, _, _⟩ := h
  exact ⟨a1, c1, a2, c2, h1, h2, h3, h4⟩

theorem TreeG.on {F : Nat → Prop} {w w' : World} {v : Value} {t : TreeT} (h : TreeG F w v t) (hb : Below w.heap.size w w') : TreeG F w' v t := by
  obtain ⟨a1, c1, a2, c2, h1, h2, h3, h4, h5, h6⟩ := h
  exact ⟨a1, c1, a2, c2, h1, h2.below hb, h3.below hb, h4, h5, h6⟩

theorem TreeG.kept {F : Nat → Prop} {w w' : World} {v : Value} {t : TreeT} (h : TreeG F w v t) (hK : KeptF F w w') : TreeG F w' v t := by
  obtain ⟨a1, c1, a2, c2, h1, h2, h3, h4, h5, h6⟩ := h
  exact ⟨a1, c1, a2, c2, h1, ⟨h2.1, rows_kept h2.2 h5 hK⟩, ⟨h3.1, rows_kept h3.2 h6 hK⟩, h4, h5, h6⟩

theorem far_of {F : Nat → Prop} {B n0 n c : Nat} {a a' : Option Addr} (h : AdrV a n0 B (.slice a' n c)) (hF : Far F n0 a) (hB : ∀ k, F k → k < B) : Far F n a' := fun hn x hx hk => by
  subst hx
  rcases h x n c rfl with ⟨y, hy, e, hle⟩ | h
  · exact hF (by omega) y hy (by rw [e]; exact hk)
  · have := hB _ hk; omega

theorem treeG_of {F : Nat → Prop} {w w' : World} {v' : Value} {t t' : TreeT} {a1 a2 : Option Addr} (hF1 : Far F t.1.length a1) (hF2 : Far F t.2.1.length a2) (hB : ∀ k, F k → k < w.heap.size) (h : TreeW a1 t.1.length a2 t.2.1.length w.heap.size w' v' t') : TreeG F w' v' t' := by
  obtain ⟨⟨b1, c1, b2, c2, rfl, h2, h3, h4⟩, s1, s2, x, y, hv, k1, k2⟩ := h
  cases hv
  exact ⟨b1, c1, b2, c2, rfl, h2, h3, h4, far_of k1 hF1 hB, far_of k2 hF2 hB⟩

theorem rapplyG_any (M : OpT → Bool) (hM : ∀ o, M o = true ↔ MayO o) (F : Nat → Prop) (t : TreeT) (o : OpT) (v : Value) (w : World) (hn : t.1.length + t.2.1.length ≤ 50000) (hs : o.2.2.2.2.1.size ≤ 1048576) (ht : o.2.2.2.2.2.size ≤ 9223372036854775807) (hV : TreeG F w v t) (hB : ∀ k, F k → k < w.heap.size) :
    Calls Tryz.prog 25 #[v, .agg (opA o)] w fun e w' => ∃ v', e = .returned (.tuple #[v', .int .i64 (applyP M t o).2]) ∧ TreeG F w' v' (applyP M t o).1 ∧ Below w.heap.size w w' := by
  obtain ⟨a1, c1, a2, c2, hv, h1, h2, h3, h5, h6⟩ := hV
  exact (rapplyW_any M hM t o v w hn hs ht a1 a2 c1 c2 hv h1 h2 h3).mono fun _ _ ⟨v', k1, k2, k3⟩ => ⟨v', k1, treeG_of h5 h6 hB k2, k3⟩

theorem TreeG.shape3 {F : Nat → Prop} {w : World} {v : Value} {t : TreeT} (h : TreeG F w v t) : ∃ a1 n1 c1 a2 n2 c2 b1 b2, v = .agg #[.slice a1 n1 c1, .slice a2 n2 c2, .int .i64 b1, .int .i64 b2] := by
  obtain ⟨a1, c1, a2, c2, h, _⟩ := h
  exact ⟨a1, _, c1, a2, _, c2, _, _, h⟩

theorem keptF_row3 {F : Nat → Prop} (w : World) (hx : Nat) (cs : Array Value) (h : F hx) : KeptF F w (w.setRow hx cs) := (KeptF.refl F w).grown (grown_setRow w hx cs) (fun j e _ => by cases e; exact h)

theorem TreeG.fewer3 {F G : Nat → Prop} {w : World} {v : Value} {t : TreeT} (h : TreeG F w v t) (hG : ∀ k, G k → F k) : TreeG G w v t := by
  obtain ⟨a1, c1, a2, c2, h1, h2, h3, h4, h5, h6⟩ := h
  exact ⟨a1, c1, a2, c2, h1, h2, h3, h4, fun hn x hx hk => h5 hn x hx (hG _ hk), fun hn x hx hk => h6 hn x hx (hG _ hk)⟩

theorem TreeG.more3 {F : Nat → Prop} {w : World} {v : Value} {t : TreeT} (h : TreeG F w v t) (hx : Nat) (hw : w.heap.size ≤ hx) : TreeG (fun k => F k ∨ k = hx) w v t := by
  obtain ⟨a1, c1, a2, c2, h1, h2, h3, h4, h5, h6⟩ := h
  have far : ∀ {n c : Nat} {a : Option Addr} {f : Nat → Array Value}, 0 < c → RowsAt w a n c f → Far F n a → Far (fun k => F k ∨ k = hx) n a := fun {n c a f} hc hr hF hn x hxx hk => by
    rcases hk with hk | hk
    · exact hF hn x hxx hk
    · rcases hr with h0 | ⟨b, off, ha, hcc⟩
      · omega
      · obtain ⟨u, _, h2⟩ := hcc 0 hn 0 hc
        have := World.block_lt_of_cell? w _ h2
        rw [hxx] at ha
        cases ha
        simp only at hk this
        omega
  exact ⟨a1, c1, a2, c2, h1, h2, h3, h4, far (by decide) h2.2 h5, far (by decide) h3.2 h6⟩

/-- The document's tree, its cell, the stamp's. -/
structure CuV (w W : World) (T : TreeT) (cs : Array Value) (hq : Nat) : Prop where
  tg : TreeG (fun k => k = hq) W (.agg cs) T
  q : Blk W 53 hq cs
  bel : Below w.heap.size w W
  low : w.heap.size ≤ hq

theorem CuV.on {w W W' : World} {T : TreeT} {cs : Array Value} {hq : Nat} (h : CuV w W T cs hq) (hb : Below W.heap.size W W') : CuV w W' T cs hq := ⟨h.tg.on hb, h.q.on hb, below_step h.bel (Nat.le_refl _) hb, h.low⟩

theorem CuV.next {w W : World} {T T' : TreeT} {cs cs' : Array Value} {hq : Nat} (h : CuV w W T cs hq) (hG : TreeG (fun k => k = hq) W (.agg cs') T') : CuV w (W.setRow hq cs') T' cs' hq := ⟨hG.kept (keptF_row3 W hq cs' rfl), h.q.setRow _, below_setRow h.bel h.low _, h.low⟩

theorem CuV.cells {w W : World} {T : TreeT} {hq n1 n2 c1 c2 : Nat} {a1 a2 : Option Addr} {b1 b2 : Int} (h : CuV w W T #[.slice a1 n1 c1, .slice a2 n2 c2, .int .i64 b1, .int .i64 b2] hq) : W.cell? ⟨hq, 0, none⟩ = some (.slice a1 n1 c1) ∧ W.cell? ⟨hq, 1, none⟩ = some (.slice a2 n2 c2) ∧ W.cell? ⟨hq, 2, none⟩ = some (.int .i64 b1) ∧ W.cell? ⟨hq, 3, none⟩ = some (.int .i64 b2) := ⟨h.q.cell 0, h.q.cell 1, h.q.cell 2, h.q.cell 3⟩


theorem oL_getV (l : List OpT) (i : Nat) (h : i < l.length) : oL l i = l[i] := by
  unfold oL
  rw [List.getD_eq_getElem?_getD, List.getElem?_eq_getElem h]
  rfl

/-- What made answers. -/
def MadeO (e : Ending) (w' : World) : Prop := e = .returned (.tuple #[.slice none 0 0, .bool false]) ∨ ∃ v NN, e = .returned (.tuple #[v, .bool true]) ∧ MayV NN ∧ NN.length ≤ 80 ∧ (∀ x ∈ NN, NdV x) ∧ NodesV w' v NN

set_option maxRecDepth 100000 in
set_option maxHeartbeats 8000000 in
theorem made_any (a : Option Addr) (l : List OpT) (n c : Nat) (w : World) (hm : n ≤ maxLen) (hI : OpsAt w a n l) (hz : ∀ q ∈ l, OpOk q) :
    Calls Tryz.prog 9 #[.slice a n c] w fun e w' => MadeO e w' ∧ Below w.heap.size w w' := by
  obtain ⟨M, hM⟩ := mayM_ex
  have HM : Hid (∀ o, M o = true ↔ MayO o) := hM
  have HI : Hid (OpsAt w a n l) := hI
  have HN : Hid (l.length = n) := hI.1
  have HZ : Hid (∀ q ∈ l, OpOk q) := hz
  have hmn : n ≤ 9223372036854775807 := hm
  have X0 : Blk (w.alloc (.cells #[.slice none 0 0, .slice none 0 0, .int .i64 0, .int .i64 0] 53)) 53 w.heap.size #[.slice none 0 0, .slice none 0 0, .int .i64 0, .int .i64 0] := Blk.new _ _ _
  have HS0 : Hid (CuV w ((w.alloc (.cells #[.slice none 0 0, .slice none 0 0, .int .i64 0, .int .i64 0] 53)).setRow w.heap.size #[.slice none 0 0, .slice none 0 0, .int .i64 0, .int .i64 0]) (playP M T0 (l.take 0)) #[.slice none 0 0, .slice none 0 0, .int .i64 0, .int .i64 0] w.heap.size) := ⟨⟨none, 0, none, 0, rfl, ⟨rfl, .inl rfl⟩, ⟨rfl, .inl rfl⟩, .inl ⟨rfl, rfl, rfl⟩, fun h => absurd h (Nat.lt_irrefl 0), fun h => absurd h (Nat.lt_irrefl 0)⟩, X0.setRow _, below_setRow (below_new _ _) (Nat.le_refl _) _, Nat.le_refl _⟩
  clear hM hI hz hm
  go_enter Tryz.func9, Tryz.ntmps9
  go_wp2_with (with_reducible refine wpList_storeBlk rfl 53 _ _ rfl w.heap.size #[.slice none 0 0, .slice none 0 0, .int .i64 0, .int .i64 0] #[.slice none 0 0, .slice none 0 0, .int .i64 0, .int .i64 0] ?hx ?hy X0 rfl ?hi ?h1 ?_)
  try (case hx => rfl)
  try (case hy => rfl)
  try (case hi => kernel_rfl)
  try (case h1 => simp [Value.oneCell'])
  obtain ⟨W1, hW1⟩ : ∃ W1, ((w.alloc (.cells #[.slice none 0 0, .slice none 0 0, .int .i64 0, .int .i64 0] 53)).setRow w.heap.size #[.slice none 0 0, .slice none 0 0, .int .i64 0, .int .i64 0]) = W1 := ⟨_, rfl⟩
  obtain ⟨hq, hhq⟩ : ∃ hq, w.heap.size = hq := ⟨_, rfl⟩
  have HS1 : Hid (CuV w W1 (playP M T0 (l.take 0)) #[.slice none 0 0, .slice none 0 0, .int .i64 0, .int .i64 0] hq) := by show CuV _ _ _ _ _; rw [← hW1, ← hhq]; exact HS0.out
  try rw [hW1]
  try rw [hhq]
  clear hW1 hhq X0 HS0
  go_loopw [5] (fun i wr => ∃ (k : Nat) (a1 : Option Addr) (n1 c1 : Nat) (a2 : Option Addr) (n2 c2 : Nat) (b1 b2 : Int), k ≤ n ∧ k ≤ 30 ∧ i = .int .i64 k ∧ Hid (∀ j, j < k → LightO (oL l j)) ∧ Hid (CuV w wr (playP M T0 (l.take k)) #[.slice a1 n1 c1, .slice a2 n2 c2, .int .i64 b1, .int .i64 b2] hq)) (fun i _ => n - (intOf i).toNat)
  case atStart => exact ⟨0, none, 0, 0, none, 0, 0, 0, 0, by omega, by omega, rfl, fun j hj => absurd hj (Nat.not_lt_zero _), HS1⟩
  case round =>
    clear HS1
    obtain ⟨k, a1, n1, c1, a2, n2, c2, b1, b2, hk, hk30, rfl, HLi, HS⟩ := hrel
    by_cases hlt : k < n
    · have b0 : (k : Int) < (n : Int) := by omega
      by_cases h30 : k < 30
      · have b3 : (k : Int) < 30 := by omega
        obtain ⟨b, off, rfl, _⟩ := HI.out.2.some (by omega)
        have hil : k < l.length := by rw [HN.out]; exact hlt
        have hIc : ∀ W, Below w.heap.size w W → W.cell? ⟨b, off + k * 9, none⟩ = some (.int .i64 (oL l k).1) ∧ W.cell? ⟨b, off + k * 9 + 1, none⟩ = some (.int .i64 (oL l k).2.1.1) ∧ W.cell? ⟨b, off + k * 9 + 2, none⟩ = some (.int .i64 (oL l k).2.1.2) ∧ W.cell? ⟨b, off + k * 9 + 3, none⟩ = some (.int .i64 (oL l k).2.2.1.1) ∧ W.cell? ⟨b, off + k * 9 + 4, none⟩ = some (.int .i64 (oL l k).2.2.1.2) ∧ W.cell? ⟨b, off + k * 9 + 5, none⟩ = some (.int .i64 (oL l k).2.2.2.1.1) ∧ W.cell? ⟨b, off + k * 9 + 6, none⟩ = some (.int .i64 (oL l k).2.2.2.1.2) ∧ W.cell? ⟨b, off + k * 9 + 7, none⟩ = some (.string (oL l k).2.2.2.2.1) ∧ W.cell? ⟨b, off + k * 9 + 8, none⟩ = some (.string (oL l k).2.2.2.2.2) := fun W hW => (HI.out.below hW).cells k hlt
        obtain ⟨z7, z8⟩ := (HZ.out _ (oL_mem l k hil)).2
        obtain ⟨D, hD⟩ : ∃ D : Bool, D = true ↔ LightO (oL l k) := ⟨@decide (LightO (oL l k)) (Classical.propDecidable _), by simp⟩
        have CL' : ∀ W, _ := fun W => rlight_any (oL l k) D hD W z7 z8
        have HD : Hid (D = true → LightO (oL l k)) := hD.1
        have hTl := play_len M (l.take k) (by rw [List.length_take]; omega)
        have CRA' : D = true → ∀ (F : Nat → Prop) (W : World), TreeG F W (.agg #[.slice a1 n1 c1, .slice a2 n2 c2, .int .i64 b1, .int .i64 b2]) (playP M T0 (l.take k)) → (∀ k, F k → k < W.heap.size) → _ := fun hd F W h1 h2 => rapplyG_any M HM.out F (playP M T0 (l.take k)) (oL l k) (.agg #[.slice a1 n1 c1, .slice a2 n2 c2, .int .i64 b1, .int .i64 b2]) W (by omega) (by have := (hD.1 hd).1; omega) (by have := (hD.1 hd).2; omega) h1 h2
        have hAT : playP M T0 (l.take (k + 1)) = (applyP M (playP M T0 (l.take k)) (oL l k)).1 := by rw [take_oL l k hil, playP_snoc]
        have HLk' : Hid (D = true → ∀ j, j < k + 1 → LightO (oL l j)) := fun hd j hj => by
          by_cases e : j = k
          · rw [e]; exact hD.1 hd
          · exact HLi.out j (by omega)
        obtain ⟨⟨k0, ⟨k1, k2⟩, ⟨k3, k4⟩, ⟨k5, k6⟩, s7, s8⟩, hkk⟩ : ∃ s, s = oL l k := ⟨_, rfl⟩
        simp only [← hkk, opA] at CRA' CL' hIc
        rw [← hkk] at hAT
        obtain ⟨T, hT⟩ : ∃ T, playP M T0 (l.take k) = T := ⟨_, rfl⟩
        rw [hT] at HS hAT
        simp only [hT] at CRA'
        obtain ⟨⟨AT, ea⟩, hA⟩ : ∃ p, applyP M T (k0, (k1, k2), (k3, k4), (k5, k6), s7, s8) = p := ⟨_, rfl⟩
        rw [hA] at hAT
        simp only [hA] at CRA'
        have HAT : Hid (playP M T0 (l.take (k + 1)) = AT) := hAT
        have CL : Hid (∀ W, _) := CL'
        have HSO : Hid (∀ W, Below w.heap.size w W → W.cell? ⟨b, off + k * 9, none⟩ = some (.int .i64 k0) ∧ W.cell? ⟨b, off + k * 9 + 1, none⟩ = some (.int .i64 k1) ∧ W.cell? ⟨b, off + k * 9 + 2, none⟩ = some (.int .i64 k2) ∧ W.cell? ⟨b, off + k * 9 + 3, none⟩ = some (.int .i64 k3) ∧ W.cell? ⟨b, off + k * 9 + 4, none⟩ = some (.int .i64 k4) ∧ W.cell? ⟨b, off + k * 9 + 5, none⟩ = some (.int .i64 k5) ∧ W.cell? ⟨b, off + k * 9 + 6, none⟩ = some (.int .i64 k6) ∧ W.cell? ⟨b, off + k * 9 + 7, none⟩ = some (.string s7) ∧ W.cell? ⟨b, off + k * 9 + 8, none⟩ = some (.string s8)) := hIc
        obtain ⟨x0, x1, x2, x3, x4, x5, x6, x7, x8⟩ := hIc wr HS.out.bel
        clear hkk hT hA hAT hIc CL' z7 z8 hD hil HLi HD
        go_wp2_with fail
        refine (CL.out wr).mono ?_
        rintro e w1 ⟨rfl, hb1⟩
        have HS1 : Hid (CuV w w1 T #[.slice a1 n1 c1, .slice a2 n2 c2, .int .i64 b1, .int .i64 b2] hq) := HS.out.on hb1
        clear CL hb1 HS x0 x1 x2 x3 x4 x5 x6 x7 x8
        cases D with
        | false =>
          have HB : Hid (Below w.heap.size w w1) := HS1.out.bel
          clear HS1 CRA' HLk' HAT HSO
          go_wp2_with fail
          go_ret2
          exact ⟨.inl rfl, HB.out⟩
        | true =>
          have CRA : Hid (∀ (F : Nat → Prop) (W : World), TreeG F W (.agg #[.slice a1 n1 c1, .slice a2 n2 c2, .int .i64 b1, .int .i64 b2]) T → (∀ k, F k → k < W.heap.size) → _) := CRA' rfl
          have HLk : Hid (∀ j, j < k + 1 → LightO (oL l j)) := HLk'.out rfl
          have HS := HS1
          have HSS : Hid (∀ W, Below w1.heap.size w1 W → W.cell? ⟨hq, 0, none⟩ = some (.slice a1 n1 c1) ∧ W.cell? ⟨hq, 1, none⟩ = some (.slice a2 n2 c2) ∧ W.cell? ⟨hq, 2, none⟩ = some (.int .i64 b1) ∧ W.cell? ⟨hq, 3, none⟩ = some (.int .i64 b2) ∧ W.cell? ⟨b, off + k * 9, none⟩ = some (.int .i64 k0) ∧ W.cell? ⟨b, off + k * 9 + 1, none⟩ = some (.int .i64 k1) ∧ W.cell? ⟨b, off + k * 9 + 2, none⟩ = some (.int .i64 k2) ∧ W.cell? ⟨b, off + k * 9 + 3, none⟩ = some (.int .i64 k3) ∧ W.cell? ⟨b, off + k * 9 + 4, none⟩ = some (.int .i64 k4) ∧ W.cell? ⟨b, off + k * 9 + 5, none⟩ = some (.int .i64 k5) ∧ W.cell? ⟨b, off + k * 9 + 6, none⟩ = some (.int .i64 k6) ∧ W.cell? ⟨b, off + k * 9 + 7, none⟩ = some (.string s7) ∧ W.cell? ⟨b, off + k * 9 + 8, none⟩ = some (.string s8)) := fun W hW => by
            obtain ⟨q0, q1, q2, q3⟩ := (HS.out.on hW).cells
            exact ⟨q0, q1, q2, q3, HSO.out W (HS.out.on hW).bel⟩
          have hS0 := HSS.out w1 (Below.refl _ _)
          clear CRA' HLk' HS1 HSO
          go_wp2_with fail
          go_cut [6, 7] (fun u ev wx => ∃ (hx : Nat) (pa1 : Option Addr) (pn1 pc1 : Nat) (pa2 : Option Addr) (pn2 pc2 : Nat) (pb1 pb2 : Int), u = .pointer (some ⟨hx, 0, none⟩) ∧ ev = .int .i64 ea ∧ w1.heap.size ≤ hx ∧ Blk wx 53 hx #[.slice pa1 pn1 pc1, .slice pa2 pn2 pc2, .int .i64 pb1, .int .i64 pb2] ∧ TreeG (fun k => k = hq) wx (.agg #[.slice pa1 pn1 pc1, .slice pa2 pn2 pc2, .int .i64 pb1, .int .i64 pb2]) AT ∧ Below w1.heap.size w1 wx)
          case first =>
            refine wp_region_noPanic ?_
            refine wp_region_held_drew (S := fun W => W.cell? ⟨hq, 0, none⟩ = some (.slice a1 n1 c1) ∧ W.cell? ⟨hq, 1, none⟩ = some (.slice a2 n2 c2) ∧ W.cell? ⟨hq, 2, none⟩ = some (.int .i64 b1) ∧ W.cell? ⟨hq, 3, none⟩ = some (.int .i64 b2) ∧ W.cell? ⟨b, off + k * 9, none⟩ = some (.int .i64 k0) ∧ W.cell? ⟨b, off + k * 9 + 1, none⟩ = some (.int .i64 k1) ∧ W.cell? ⟨b, off + k * 9 + 2, none⟩ = some (.int .i64 k2) ∧ W.cell? ⟨b, off + k * 9 + 3, none⟩ = some (.int .i64 k3) ∧ W.cell? ⟨b, off + k * 9 + 4, none⟩ = some (.int .i64 k4) ∧ W.cell? ⟨b, off + k * 9 + 5, none⟩ = some (.int .i64 k5) ∧ W.cell? ⟨b, off + k * 9 + 6, none⟩ = some (.int .i64 k6) ∧ W.cell? ⟨b, off + k * 9 + 7, none⟩ = some (.string s7) ∧ W.cell? ⟨b, off + k * 9 + 8, none⟩ = some (.string s8)) (by kernel_rfl) (by first | exact trivial | assumption | exact ⟨by assumption, by assumption⟩) (fun hHeld => ?_)
            refine tk 0 (v := ?_) rfl rfl ?_ ?_
            rotate_left
            · intro w hSw; (try dsimp only at hSw); go_simp; try with_reducible rfl
            try simp only [Act.put, za, zb, zc]
            refine tk 1 (v := ?_) rfl rfl ?_ ?_
            rotate_left
            · intro w hSw; (try dsimp only at hSw); go_simp; try with_reducible rfl
            try simp only [Act.put, za, zb, zc]
            refine tk 2 (v := ?_) rfl rfl ?_ ?_
            rotate_left
            · intro w hSw; (try dsimp only at hSw); go_simp; try with_reducible rfl
            try simp only [Act.put, za, zb, zc]
            refine tk 3 (v := ?_) rfl rfl ?_ ?_
            rotate_left
            · intro w hSw; (try dsimp only at hSw); go_simp; try with_reducible rfl
            try simp only [Act.put, za, zb, zc]
            refine tk 4 (v := ?_) rfl rfl ?_ ?_
            rotate_left
            · intro w hSw; (try dsimp only at hSw); go_simp; try with_reducible rfl
            try simp only [Act.put, za, zb, zc]
            refine wpAnyH_ready (rs := [5, 9]) (by kernel_rfl) (by simp) ?_
            refine AllReadyH.cons rfl (fun K hK => ?_) (AllReadyH.cons rfl (fun K hK => ?_) AllReadyH.nil)
            · have C1 : Hid (Calls _ _ _ _ _) := CRA.out (fun k => k = hq) w1.drew (HS.out.on (Below.refl _ _).drew).tg (fun k hk => by rw [hk]; exact HS.out.q.lt)
              go_simp
              refine C1.out.mono ?_
              rintro e V1 ⟨v1, rfl, hG1, hb1⟩
              have hV1 : Below w1.heap.size w1 V1 := below_step (Below.refl _ _).drew (Nat.le_refl _) hb1
              obtain ⟨pa1, pn1, pc1, pa2, pn2, pc2, pb1, pb2, rfl⟩ := hG1.shape3
              refine hK.out _ _ (HSS.out _ hV1) (fun hHeld => ?_)
              clear hK K
              refine tk 6 (v := ?_) rfl rfl ?_ ?_
              rotate_left
              · intro w hSw; (try dsimp only at hSw); go_simp; try with_reducible rfl
              try simp only [Act.put, za, zb, zc]
              refine tk 7 (v := ?_) rfl rfl ?_ ?_
              rotate_left
              · intro w hSw; (try dsimp only at hSw); go_simp; try with_reducible rfl
              try simp only [Act.put, za, zb, zc]
              refine tk 8 (v := ?_) rfl rfl ?_ ?_
              rotate_left
              · intro w hSw; (try dsimp only at hSw); go_simp; try with_reducible rfl
              try simp only [Act.put, za, zb, zc]
              refine wpAnyH_ready (rs := [9]) (by kernel_rfl) (by simp) ?_
              refine AllReadyH.cons rfl (fun K hK => ?_) AllReadyH.nil
              go_simp
              have hV2 : Below w1.heap.size w1 (V1.alloc (.cells #[.slice none 0 0, .slice none 0 0, .int .i64 0, .int .i64 0] 53)) := hV1.alloc hV1.size _
              refine hK.out _ _ (HSS.out _ hV2) (fun hHeld => ?_)
              clear hK K
              refine wpAnyH_ready (rs := [10]) (by kernel_rfl) (by simp) ?_
              refine AllReadyH.cons rfl (fun K hK => ?_) AllReadyH.nil
              refine step_storeRow rfl rfl 53 _ _ rfl V1.heap.size #[.slice none 0 0, .slice none 0 0, .int .i64 0, .int .i64 0] #[.slice pa1 pn1 pc1, .slice pa2 pn2 pc2, .int .i64 pb1, .int .i64 pb2] rfl rfl (Blk.new V1 _ _) rfl (by kernel_rfl) (by simp [Value.oneCell']) ?_
              have hV3 := below_setRow hV2 hV1.size #[.slice pa1 pn1 pc1, .slice pa2 pn2 pc2, .int .i64 pb1, .int .i64 pb2]
              refine hK.out _ _ (HSS.out _ hV3) (fun hHeld => ?_)
              clear hK K
              refine tk 11 (v := ?_) rfl rfl ?_ ?_
              rotate_left
              · intro w hSw; (try dsimp only at hSw); go_simp; try with_reducible rfl
              try simp only [Act.put, za, zb, zc]
              refine wpAnyH_done (by kernel_rfl) (NoPanic.normal ?_) _
              have hG3 := hG1.on (below_setRow (below_new V1 (.cells #[.slice none 0 0, .slice none 0 0, .int .i64 0, .int .i64 0] 53)) (Nat.le_refl _) #[.slice pa1 pn1 pc1, .slice pa2 pn2 pc2, .int .i64 pb1, .int .i64 pb2])
              go_wp2_with fail
              go_meet
              case rel => exact ⟨V1.heap.size, pa1, pn1, pc1, pa2, pn2, pc2, pb1, pb2, rfl, rfl, hV1.size, (Blk.new V1 _ _).setRow _, hG3, hV3⟩
            · have hV1 : Below w1.heap.size w1 (w1.alloc (.cells #[.slice none 0 0, .slice none 0 0, .int .i64 0, .int .i64 0] 53)) := below_new _ _
              have C1 : Hid (Calls _ _ _ _ _) := CRA.out (fun k => (fun k => k = hq) k ∨ k = w1.heap.size) (w1.alloc (.cells #[.slice none 0 0, .slice none 0 0, .int .i64 0, .int .i64 0] 53)).drew ((HS.out.tg.more3 w1.heap.size (Nat.le_refl _)).on hV1.drew) (fun k hk => by
                show k < (w1.alloc (.cells #[.slice none 0 0, .slice none 0 0, .int .i64 0, .int .i64 0] 53)).heap.size
                rw [World.size_alloc]
                rcases hk with hk | hk
                · have hk' : k = hq := hk
                  have := HS.out.q.lt; omega
                · omega)
              have KV1 : Blk (w1.alloc (.cells #[.slice none 0 0, .slice none 0 0, .int .i64 0, .int .i64 0] 53)).drew 53 w1.heap.size #[.slice none 0 0, .slice none 0 0, .int .i64 0, .int .i64 0] := Blk.new w1 _ _
              go_simp
              refine hK.out _ _ (HSS.out _ hV1.drew) (fun hHeld => ?_)
              clear hK K
              refine wpAnyH_ready (rs := [5]) (by kernel_rfl) (by simp) ?_
              refine AllReadyH.cons rfl (fun K hK => ?_) AllReadyH.nil
              go_simp
              refine C1.out.mono ?_
              rintro e V ⟨v1, rfl, hG1, hb1⟩
              have hVV : Below w1.heap.size w1 V := below_step hV1.drew (by simp) hb1
              have KV : Blk V 53 w1.heap.size #[.slice none 0 0, .slice none 0 0, .int .i64 0, .int .i64 0] := KV1.on hb1
              obtain ⟨pa1, pn1, pc1, pa2, pn2, pc2, pb1, pb2, rfl⟩ := hG1.shape3
              refine hK.out _ _ (HSS.out _ hVV) (fun hHeld => ?_)
              clear hK K
              refine tk 6 (v := ?_) rfl rfl ?_ ?_
              rotate_left
              · intro w hSw; (try dsimp only at hSw); go_simp; try with_reducible rfl
              try simp only [Act.put, za, zb, zc]
              refine tk 7 (v := ?_) rfl rfl ?_ ?_
              rotate_left
              · intro w hSw; (try dsimp only at hSw); go_simp; try with_reducible rfl
              try simp only [Act.put, za, zb, zc]
              refine tk 8 (v := ?_) rfl rfl ?_ ?_
              rotate_left
              · intro w hSw; (try dsimp only at hSw); go_simp; try with_reducible rfl
              try simp only [Act.put, za, zb, zc]
              refine wpAnyH_ready (rs := [10]) (by kernel_rfl) (by simp) ?_
              refine AllReadyH.cons rfl (fun K hK => ?_) AllReadyH.nil
              refine step_storeRow rfl rfl 53 _ _ rfl w1.heap.size #[.slice none 0 0, .slice none 0 0, .int .i64 0, .int .i64 0] #[.slice pa1 pn1 pc1, .slice pa2 pn2 pc2, .int .i64 pb1, .int .i64 pb2] rfl rfl KV rfl (by kernel_rfl) (by simp [Value.oneCell']) ?_
              have hV3 := below_setRow hVV (Nat.le_refl _) #[.slice pa1 pn1 pc1, .slice pa2 pn2 pc2, .int .i64 pb1, .int .i64 pb2]
              refine hK.out _ _ (HSS.out _ hV3) (fun hHeld => ?_)
              clear hK K
              refine tk 11 (v := ?_) rfl rfl ?_ ?_
              rotate_left
              · intro w hSw; (try dsimp only at hSw); go_simp; try with_reducible rfl
              try simp only [Act.put, za, zb, zc]
              refine wpAnyH_done (by kernel_rfl) (NoPanic.normal ?_) _
              have hG3 := (hG1.kept (keptF_row3 V w1.heap.size #[.slice pa1 pn1 pc1, .slice pa2 pn2 pc2, .int .i64 pb1, .int .i64 pb2] (.inr rfl))).fewer3 (fun k hk => .inl hk)
              go_wp2_with fail
              go_meet
              case rel => exact ⟨w1.heap.size, pa1, pn1, pc1, pa2, pn2, pc2, pb1, pb2, rfl, rfl, Nat.le_refl _, KV.setRow _, hG3, hV3⟩
          case rest =>
            obtain ⟨hx, pa1, pn1, pc1, pa2, pn2, pc2, pb1, pb2, rfl, rfl, hhx, hQc, hGc, hBc⟩ := hcut
            have HSc : Hid (CuV w wc T #[.slice a1 n1 c1, .slice a2 n2 c2, .int .i64 b1, .int .i64 b2] hq) := HS.out.on hBc
            have X1 := HSc.out.q
            have y0 : wc.cell? ⟨hx, 0, none⟩ = some _ := hQc.cell 0
            have y1 : wc.cell? ⟨hx, 1, none⟩ = some _ := hQc.cell 1
            have y2 : wc.cell? ⟨hx, 2, none⟩ = some _ := hQc.cell 2
            have y3 : wc.cell? ⟨hx, 3, none⟩ = some _ := hQc.cell 3
            have HSn : Hid (CuV w (wc.setRow hq #[.slice pa1 pn1 pc1, .slice pa2 pn2 pc2, .int .i64 pb1, .int .i64 pb2]) AT #[.slice pa1 pn1 pc1, .slice pa2 pn2 pc2, .int .i64 pb1, .int .i64 pb2] hq) := HSc.out.next hGc
            clear hQc hGc hBc HS HSS CRA HSc hS0
            go_wp2_with (with_reducible refine wpList_storeBlk rfl 53 _ _ rfl hq #[.slice a1 n1 c1, .slice a2 n2 c2, .int .i64 b1, .int .i64 b2] #[.slice pa1 pn1 pc1, .slice pa2 pn2 pc2, .int .i64 pb1, .int .i64 pb2] ?hx ?hy X1 rfl ?hi ?h1 ?_)
            try (case hx => rfl)
            try (case hy => rfl)
            try (case hi => kernel_rfl)
            try (case h1 => simp [Value.oneCell'])
            refine ⟨?_, ?_⟩
            · first
              | exact ⟨k + 1, pa1, pn1, pc1, pa2, pn2, pc2, pb1, pb2, by omega, by omega, by go_num, HLk, by rw [HAT.out]; exact HSn⟩
              | ((repeat apply Exists.intro); refine ⟨?_, rfl⟩; exact ⟨k + 1, pa1, pn1, pc1, pa2, pn2, pc2, pb1, pb2, by omega, by omega, by go_num, HLk, by rw [HAT.out]; exact HSn⟩)
            · simp [intOf] <;> omega
      · have b3 : ¬ ((k : Int) < 30) := by omega
        have hlk : (l.take k).length ≤ 80 := by rw [List.length_take]; omega
        have hLi : ∀ o ∈ l.take k, LightO o := fun o ho => by
          obtain ⟨i, hi, rfl⟩ := mem_oL (l.take k) o ho
          have hi' : i < k := by rw [List.length_take] at hi; omega
          have e : oL (l.take k) i = oL l i := by
            rw [oL_getV (l.take k) i hi, oL_getV l i (by rw [List.length_take] at hi; omega), List.getElem_take]
          rw [e]; exact HLi.out i hi'
        have hP := play_mayV M HM.out (l.take k) hlk hLi
        have hTl := play_len M (l.take k) (by omega)
        have hcs := HS.out.cells
        obtain ⟨q0, q1, q2, q3⟩ := hcs
        have CN : Hid (∀ W, Below wr.heap.size wr W → _) := fun W hW => rnodes_any (playP M T0 (l.take k)) (.agg #[.slice a1 n1 c1, .slice a2 n2 c2, .int .i64 b1, .int .i64 b2]) W (by omega) (HS.out.tg.on hW).v
        have HB : Hid (Below w.heap.size w wr) := HS.out.bel
        have HP : Hid (MayV (nodesP (playP M T0 (l.take k)).1 (playP M T0 (l.take k)).2.1) ∧ (nodesP (playP M T0 (l.take k)).1 (playP M T0 (l.take k)).2.1).length ≤ 80 ∧ ∀ x ∈ nodesP (playP M T0 (l.take k)).1 (playP M T0 (l.take k)).2.1, NdV x) := hP
        obtain ⟨NN, hNN⟩ : ∃ NN, nodesP (playP M T0 (l.take k)).1 (playP M T0 (l.take k)).2.1 = NN := ⟨_, rfl⟩
        simp only [hNN] at HP CN
        clear hlk hLi hP hTl HS hNN
        go_wp2_with fail
        refine (CN.out wr (Below.refl _ _)).mono ?_
        rintro e w9 ⟨v9, rfl, hv9, hb9⟩
        have HB9 : Hid (Below w.heap.size w w9) := below_step HB.out (Nat.le_refl _) hb9
        have HV9 : Hid (NodesV w9 v9 NN) := hv9
        clear CN hb9 hv9
        go_wp2_with fail
        go_ret2
        exact ⟨.inr ⟨v9, NN, rfl, HP.out.1, HP.out.2.1, HP.out.2.2, HV9.out⟩, HB9.out⟩
    · have b0 : ¬ ((k : Int) < (n : Int)) := by omega
      have hlk : (l.take k).length ≤ 80 := by rw [List.length_take]; omega
      have hLi : ∀ o ∈ l.take k, LightO o := fun o ho => by
        obtain ⟨i, hi, rfl⟩ := mem_oL (l.take k) o ho
        have hi' : i < k := by rw [List.length_take] at hi; omega
        have e : oL (l.take k) i = oL l i := by
          rw [oL_getV (l.take k) i hi, oL_getV l i (by rw [List.length_take] at hi; omega), List.getElem_take]
        rw [e]; exact HLi.out i hi'
      have hP := play_mayV M HM.out (l.take k) hlk hLi
      have hTl := play_len M (l.take k) (by omega)
      have hcs := HS.out.cells
      obtain ⟨q0, q1, q2, q3⟩ := hcs
      have CN : Hid (∀ W, Below wr.heap.size wr W → _) := fun W hW => rnodes_any (playP M T0 (l.take k)) (.agg #[.slice a1 n1 c1, .slice a2 n2 c2, .int .i64 b1, .int .i64 b2]) W (by omega) (HS.out.tg.on hW).v
      have HB : Hid (Below w.heap.size w wr) := HS.out.bel
      have HP : Hid (MayV (nodesP (playP M T0 (l.take k)).1 (playP M T0 (l.take k)).2.1) ∧ (nodesP (playP M T0 (l.take k)).1 (playP M T0 (l.take k)).2.1).length ≤ 80 ∧ ∀ x ∈ nodesP (playP M T0 (l.take k)).1 (playP M T0 (l.take k)).2.1, NdV x) := hP
      obtain ⟨NN, hNN⟩ : ∃ NN, nodesP (playP M T0 (l.take k)).1 (playP M T0 (l.take k)).2.1 = NN := ⟨_, rfl⟩
      simp only [hNN] at HP CN
      clear hlk hLi hP hTl HS hNN
      go_wp2_with fail
      refine (CN.out wr (Below.refl _ _)).mono ?_
      rintro e w9 ⟨v9, rfl, hv9, hb9⟩
      have HB9 : Hid (Below w.heap.size w w9) := below_step HB.out (Nat.le_refl _) hb9
      have HV9 : Hid (NodesV w9 v9 NN) := hv9
      clear CN hb9 hv9
      go_wp2_with fail
      go_ret2
      exact ⟨.inr ⟨v9, NN, rfl, HP.out.1, HP.out.2.1, HP.out.2.2, HV9.out⟩, HB9.out⟩
end Go.Proofs.YtebnmghjdoblaaaGreatDoor
