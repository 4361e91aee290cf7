/- Layer 20 on plain data: a group as bytes. Nothing of the program. -/
import Derived.Test.YtkmdajenbidaaaaDoorGpP
import Derived.Test.YtkmdajenbidaaaaDoorWiU
namespace Go.Proofs.YtkmdajenbidaaaaDoor
open Go.RowKit
set_option maxRecDepth 100000
set_option linter.unusedSimpArgs false
set_option linter.unusedVariables false
set_option maxRecDepth 100000

def inN (b : Bool) : Int := if b then 1 else 0
/-- A member's parts: its count, and whether it is in (as a number). -/
def prPs (x : Int × Int) : List (Int × Int × Int × ByteArray) := [(2, x.1, 0, ⟨#[]⟩), (1, x.2, 0, ⟨#[]⟩)]
def memPr (x : MemT) : Int × Int := (x.2.1, inN x.2.2)
def gpPs (G : GrpT) : List (Int × Int × Int × ByteArray) := [(2, G.1, 0, ⟨#[]⟩), (2, G.2.2, 0, ⟨#[]⟩)] ++ (G.2.1.map memPr).flatMap prPs
def putGC (G : GrpT) : ByteArray × Int := putB (mayGb G) (gpPs G)

/-- A member's numbers, read. -/
def readPr (i : ByteArray × Int) : (ByteArray × Int) × (Int × Int) := ((numberP (inNumP i).1 1).1, (((inNumP i).2 : Int), ((numberP (inNumP i).1 1).2 : Int)))
def memsOf (l : List (Int × Int)) : List MemT := (List.range l.length).map (fun (i : Nat) => (((i : Int) + 1, (l.getD i (0, 0)).1, decide ((l.getD i (0, 0)).2 = 1)) : MemT))
/-- All that is read: how far, Epoch, Ops, and the members' numbers. -/
def readGI (s : ByteArray) : ByteArray × Int := (inNumP (inNumP (s, 0)).1).1
def readGE (s : ByteArray) : Int := ((inNumP (s, 0)).2 : Int)
def readGO (s : ByteArray) : Int := ((inNumP (inNumP (s, 0)).1).2 : Int)
def readGL (s : ByteArray) : (ByteArray × Int) × List (Int × Int) := readLW readPr 6 (readGI s)
def readG (s : ByteArray) : GrpT := (readGE s, memsOf (readGL s).2, readGO s)
def grp0 : GrpT := (0, [], 0)
/-- What the code takes. -/
def takeGC (s : ByteArray) : GrpT × Int := if (putGC (readG s)).2 ≠ 0 ∨ (putGC (readG s)).1 ≠ s then (grp0, 91) else (readG s, 0)
/-- What the document takes. -/
def takeGP (s : ByteArray) : GrpT × Int := if (readGL s).2.all (fun x => decide (x.2 ≤ 1)) = false ∨ inDoneP (readGL s).1 ≠ 0 ∨ mayGb (readG s) = false then (grp0, 91) else (readG s, 0)

theorem readPr_back (x : Int × Int) (T : ByteArray) (h : ∀ p ∈ prPs x, okP p = true) : readPr (encA (prPs x) ++ T, 0) = ((T, 0), x) := by
  obtain ⟨a, b⟩ := x
  have h1 : okP (2, a, 0, ⟨#[]⟩) = true := h _ (by simp [prPs])
  have h2 : okP (1, b, 0, ⟨#[]⟩) = true := h _ (by simp [prPs])
  have e : encA (prPs (a, b)) ++ T = encP (2, a, 0, ⟨#[]⟩) ++ (encP (1, b, 0, ⟨#[]⟩) ++ T) := by
    simp only [prPs, encA, ByteArray.append_empty]
    rw [append_mid]
  obtain ⟨b1, b2⟩ := backC2 a 0 ⟨#[]⟩ (encP (1, b, 0, ⟨#[]⟩) ++ T) h1
  obtain ⟨c1, c2⟩ := backC1 b 0 ⟨#[]⟩ T h2
  unfold readPr
  rw [e, b1, b2, c1, c2]

theorem readPr_inv (i : ByteArray × Int) (h : (readPr i).1.2 = 0) : i.2 = 0 ∧ i.1 = encA (prPs (readPr i).2) ++ (readPr i).1.1 ∧ ∀ p ∈ prPs (readPr i).2, okP p = true := by
  have h' : (numberP (inNumP i).1 1).1.2 = 0 := h
  obtain ⟨a1, a2, a3⟩ := byte_inv _ h'
  obtain ⟨b1, b2, b3⟩ := numI_inv i a1
  refine ⟨b1, ?_, ?_⟩
  · show i.1 = encA [(2, ((inNumP i).2 : Int), 0, ⟨#[]⟩), (1, ((numberP (inNumP i).1 1).2 : Int), 0, ⟨#[]⟩)] ++ (numberP (inNumP i).1 1).1.1
    simp only [encA, ByteArray.append_empty]
    rw [append_mid, ← a2, ← b2]
  · intro p hp
    have hp' : p ∈ [((2 : Int), ((inNumP i).2 : Int), (0 : Int), (⟨#[]⟩ : ByteArray)), (1, ((numberP (inNumP i).1 1).2 : Int), 0, ⟨#[]⟩)] := hp
    simp only [List.mem_cons, List.not_mem_nil, or_false] at hp'
    rcases hp' with rfl | rfl
    · exact b3
    · exact a3

theorem memsOf_len (l : List (Int × Int)) : (memsOf l).length = l.length := by unfold memsOf; simp
theorem memsOf_pr (l : List (Int × Int)) (h : ∀ x ∈ l, x.2 = 0 ∨ x.2 = 1) : (memsOf l).map memPr = l := by
  apply List.ext_getElem (by rw [List.length_map, memsOf_len])
  intro i h1 h2
  have hx := h l[i] (List.getElem_mem h2)
  simp only [memsOf, List.getElem_map, List.getElem_range, memPr, inN, List.getD_eq_getElem?_getD, List.getElem?_eq_getElem h2, Option.getD_some]
  rcases hx with e | e
  · rw [if_neg (by rw [e]; decide)]; exact Prod.ext rfl e.symm
  · rw [if_pos (by rw [e]; decide)]; exact Prod.ext rfl e.symm
theorem memsOf_back (l : List MemT) (h : ∀ i, i < l.length → (mmL l i).1 = (i : Int) + 1) : memsOf (l.map memPr) = l := by
  apply List.ext_getElem (by rw [memsOf_len, List.length_map])
  intro i h1 h2
  have hx := h i h2
  rw [mmL_get l i h2] at hx
  simp only [memsOf, List.getElem_map, List.getElem_range, List.getD_eq_getElem?_getD, List.getElem?_map, List.getElem?_eq_getElem h2, Option.map_some, Option.getD_some]
  obtain ⟨x, hxl⟩ : ∃ x : MemT, l[i] = x := ⟨_, rfl⟩
  rw [hxl] at hx ⊢
  obtain ⟨a, b, c⟩ := x
  have hx' : a = (i : Int) + 1 := hx
  subst hx'
  cases c <;> rfl

theorem gpPs_enc (G : GrpT) : encA (gpPs G) = encP (2, G.1, 0, ⟨#[]⟩) ++ (encP (2, G.2.2, 0, ⟨#[]⟩) ++ encA ((G.2.1.map memPr).flatMap prPs)) := by
  unfold gpPs
  rw [encA_snoc]
  simp only [encA, ByteArray.append_empty]
  rw [append_mid]

theorem prs_size (l : List (Int × Int)) : (encA (l.flatMap prPs)).size = 7 * l.length := by
  induction l with
  | nil => rfl
  | cons x l ih =>
    rw [show (x :: l).flatMap prPs = prPs x ++ l.flatMap prPs from rfl, encA_snoc, ByteArray.size_append, ih, List.length_cons]
    have : (encA (prPs x)).size = 7 := by
      simp only [prPs, encA, ByteArray.append_empty, ByteArray.size_append, enc2, enc1, bigB_size]
    omega
theorem gpPs_size (G : GrpT) : (encA (gpPs G)).size = 12 + 7 * G.2.1.length := by
  rw [gpPs_enc, ByteArray.size_append, ByteArray.size_append, prs_size, List.length_map, enc2, enc2, bigB_size, bigB_size]
  omega

theorem mayG_ok (G : GrpT) (h : mayGb G = true) : ∀ p ∈ gpPs G, okP p = true := by
  obtain ⟨h1, h2, h3, h4⟩ := (mayGb_iff G).1 h
  intro p hp
  unfold gpPs at hp
  rcases List.mem_append.1 hp with e | e
  · simp only [List.mem_cons, List.not_mem_nil, or_false] at e
    rcases e with rfl | rfl
    · rw [num_okP, oneOk_iff]; omega
    · rw [num_okP, oneOk_iff]; omega
  · obtain ⟨x, hx, hp2⟩ := List.mem_flatMap.1 e
    obtain ⟨m, hm, rfl⟩ := List.mem_map.1 hx
    obtain ⟨i, hi, em⟩ := List.mem_iff_getElem.1 hm
    have q := h4 i (by omega)
    rw [mmL_get _ i hi, em] at q
    simp only [prPs, memPr, List.mem_cons, List.not_mem_nil, or_false] at hp2
    rcases hp2 with rfl | rfl
    · rw [num_okP, oneOk_iff]; omega
    · rw [byte_okQ, oneOk_iff]; cases m.2.2 <;> simp [inN]
theorem putG_fit (G : GrpT) (h : mayGb G = true) : putGC G = (encA (gpPs G), 0) := putB_fit _ _ h (mayG_ok G h) (by rw [gpPs_size, ((mayGb_iff G).1 h).2.2.1]; decide)

theorem readG_back (G : GrpT) (h : mayGb G = true) : readGE (encA (gpPs G)) = G.1 ∧ readGO (encA (gpPs G)) = G.2.2 ∧ readGL (encA (gpPs G)) = ((ByteArray.empty, 0), G.2.1.map memPr) := by
  have hok := mayG_ok G h
  have h1 : okP (2, G.1, 0, ⟨#[]⟩) = true := hok _ (by simp [gpPs])
  have h2 : okP (2, G.2.2, 0, ⟨#[]⟩) = true := hok _ (by simp [gpPs])
  obtain ⟨a1, a2⟩ := backC2 G.1 0 ⟨#[]⟩ (encP (2, G.2.2, 0, ⟨#[]⟩) ++ encA ((G.2.1.map memPr).flatMap prPs)) h1
  obtain ⟨b1, b2⟩ := backC2 G.2.2 0 ⟨#[]⟩ (encA ((G.2.1.map memPr).flatMap prPs)) h2
  have h6 := ((mayGb_iff G).1 h).2.2.1
  unfold readGL readGE readGO readGI
  rw [gpPs_enc, a1, a2, b1, b2]
  refine ⟨rfl, rfl, ?_⟩
  have hb := readLW_back readPr prPs (G.2.1.map memPr) ByteArray.empty (fun x hx T => readPr_back x T (fun p hp => hok p (by unfold gpPs; exact List.mem_append.2 (.inr (List.mem_flatMap.2 ⟨x, hx, hp⟩)))))
  rw [List.length_map, h6, ByteArray.append_empty] at hb
  exact hb

theorem readG_put (G : GrpT) (h : mayGb G = true) : readG (encA (gpPs G)) = G := by
  obtain ⟨a, b, c⟩ := readG_back G h
  unfold readG
  rw [a, b, c]
  have := ((mayGb_iff G).1 h).2.2
  rw [memsOf_back _ (fun i hi => (this.2 i (by omega)).1)]

theorem takeG_same (s : ByteArray) : takeGC s = takeGP s := by
  unfold takeGC takeGP
  by_cases hc : (putGC (readG s)).2 ≠ 0 ∨ (putGC (readG s)).1 ≠ s
  · rw [if_pos hc]
    by_cases hp : (readGL s).2.all (fun x => decide (x.2 ≤ 1)) = false ∨ inDoneP (readGL s).1 ≠ 0 ∨ mayGb (readG s) = false
    · rw [if_pos hp]
    · exfalso
      have p1 : (readGL s).2.all (fun x => decide (x.2 ≤ 1)) = true := by cases e : (readGL s).2.all (fun x => decide (x.2 ≤ 1)); exact absurd (.inl e) hp; rfl
      have p2 : inDoneP (readGL s).1 = 0 := Decidable.byContradiction (fun e => hp (.inr (.inl e)))
      have p3 : mayGb (readG s) = true := by cases e : mayGb (readG s); exact absurd (.inr (.inr e)) hp; rfl
      obtain ⟨d1, d2⟩ := inDone_zero _ p2
      obtain ⟨e1, e2, e3⟩ := readLW_inv readPr prPs readPr_inv 6 (readGI s) d1
      obtain ⟨f1, f2, f3⟩ := numI_inv _ e1
      obtain ⟨g1, g2, g3⟩ := numI_inv (s, 0) f1
      have hl : (memsOf (readGL s).2).map memPr = (readGL s).2 := memsOf_pr _ (fun x hx => by
        have a := List.all_eq_true.1 p1 x hx
        rw [decide_eq_true_eq] at a
        have q := e3 (1, x.2, 0, ⟨#[]⟩) (List.mem_flatMap.2 ⟨x, hx, by simp [prPs]⟩)
        rw [byte_okQ, oneOk_iff] at q
        omega)
      have hs : s = encA (gpPs (readG s)) := by
        rw [gpPs_enc]
        show s = encP (2, readGE s, 0, ⟨#[]⟩) ++ (encP (2, readGO s, 0, ⟨#[]⟩) ++ encA (((memsOf (readGL s).2).map memPr).flatMap prPs))
        rw [hl]
        have e2' : (readGI s).1 = encA ((readGL s).2.flatMap prPs) := by
          have := e2
          rw [show (readLW readPr 6 (readGI s)).1.1 = ByteArray.empty from d2, ByteArray.append_empty] at this
          exact this
        rw [← e2']
        exact g2.trans (congrArg _ f2)
      have hput := putG_fit _ p3
      rw [← hs] at hput
      rcases hc with hc | hc
      · exact hc (by rw [hput])
      · exact hc (by rw [hput])
  · have c1 : (putGC (readG s)).2 = 0 := Decidable.byContradiction (fun e => hc (.inl e))
    have c2 : (putGC (readG s)).1 = s := Decidable.byContradiction (fun e => hc (.inr e))
    have hput : putGC (readG s) = (s, 0) := Prod.ext c2 c1
    obtain ⟨m1, m2, m3⟩ := putB_inv _ _ _ hput
    rw [if_neg hc, if_neg]
    rintro (h | h | h)
    · rw [m3] at h
      rw [(readG_back _ m1).2.2] at h
      rw [← Bool.not_eq_true, List.all_eq_true] at h
      refine h (fun x hx => ?_)
      obtain ⟨y, _, rfl⟩ := List.mem_map.1 hx
      rw [decide_eq_true_eq]
      show inN y.2.2 ≤ 1
      cases y.2.2 <;> decide
    · rw [m3, (readG_back _ m1).2.2] at h
      exact h rfl
    · rw [m1] at h; cases h

theorem takeGC_put (G : GrpT) (s : ByteArray) (h : putGC G = (s, 0)) : takeGC s = (G, 0) := by
  obtain ⟨m1, m2, m3⟩ := putB_inv _ _ _ h
  unfold takeGC
  have e : readG s = G := by rw [m3]; exact readG_put G m1
  rw [e, h, if_neg (by simp)]
theorem takeGC_inv (s : ByteArray) (h : (takeGC s).2 = 0) : putGC (takeGC s).1 = (s, 0) := by
  unfold takeGC at h ⊢
  by_cases hc : (putGC (readG s)).2 ≠ 0 ∨ (putGC (readG s)).1 ≠ s
  · rw [if_pos hc] at h; exact absurd h (by decide)
  · rw [if_neg hc]
    exact Prod.ext (Decidable.byContradiction (fun e => hc (.inr e))) (Decidable.byContradiction (fun e => hc (.inl e)))
theorem takeGC_two (s : ByteArray) : (takeGC s).2 = 0 ∨ takeGC s = (grp0, 91) := by
  unfold takeGC
  by_cases hc : (putGC (readG s)).2 ≠ 0 ∨ (putGC (readG s)).1 ≠ s
  · rw [if_pos hc]; exact .inr rfl
  · rw [if_neg hc]; exact .inl rfl

end Go.Proofs.YtkmdajenbidaaaaDoor
