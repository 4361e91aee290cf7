/- Layer 19 on plain data: frames put and taken. Nothing of the program. -/
import Derived.Test.YtkmdajenbidaaaaDoorWiP
import Derived.Test.YtkmdajenbidaaaaDoorRWiB
namespace Go.Proofs.YtkmdajenbidaaaaDoor
open Go.RowKit
set_option maxRecDepth 100000
set_option linter.unusedSimpArgs false
set_option linter.unusedVariables false

/-- The parts of an item, of a frame. -/
def itPs (x : Int × Int × ByteArray) : List (Int × Int × Int × ByteArray) := [(2, x.1, 0, ⟨#[]⟩), (2, x.2.1, 0, ⟨#[]⟩), (4, 0, 0, x.2.2)]

def frHd (F : FrmT) : List (Int × Int × Int × ByteArray) := [(1, F.1, 0, ⟨#[]⟩), (2, F.2.1, 0, ⟨#[]⟩), (2, F.2.2.1, 0, ⟨#[]⟩), (2, F.2.2.2.1, 0, ⟨#[]⟩), (2, F.2.2.2.2.1, 0, ⟨#[]⟩), (2, F.2.2.2.2.2.2.2, 0, ⟨#[]⟩), (4, 0, 0, F.2.2.2.2.2.1), (1, (F.2.2.2.2.2.2.1.length : Int), 0, ⟨#[]⟩)]

def frPs (F : FrmT) : List (Int × Int × Int × ByteArray) := frHd F ++ F.2.2.2.2.2.2.1.flatMap itPs

/-- What a kind names, by its place. -/
def nmB (k : Int) (j : Nat) : Bool := (nmL k).getD j false

def OwnFr (F : FrmT) : Prop := (1 ≤ F.1 ∧ F.1 ≤ 9) ∧ (nmB F.1 0 = true ∨ F.2.2.1 = 0) ∧ (nmB F.1 1 = true ∨ F.2.2.2.1 = 0) ∧ (nmB F.1 2 = true ∨ F.2.2.2.2.1 = 0) ∧ (nmB F.1 3 = true ∨ F.2.2.2.2.2.1.size = 0) ∧ (nmB F.1 4 = true ∨ F.2.2.2.2.2.2.1.length = 0) ∧ (nmB F.1 5 = true ∨ F.2.2.2.2.2.2.2 = 0)

def ownB (F : FrmT) : Bool := (decide (1 ≤ F.1) && decide (F.1 ≤ 9)) && (nmB F.1 0 || decide (F.2.2.1 = 0)) && (nmB F.1 1 || decide (F.2.2.2.1 = 0)) && (nmB F.1 2 || decide (F.2.2.2.2.1 = 0)) && (nmB F.1 3 || decide (F.2.2.2.2.2.1.size = 0)) && (nmB F.1 4 || decide (F.2.2.2.2.2.2.1.length = 0)) && (nmB F.1 5 || decide (F.2.2.2.2.2.2.2 = 0))

theorem ownB_iff (F : FrmT) : ownB F = true ↔ OwnFr F := by
  unfold ownB OwnFr
  simp only [Bool.and_eq_true, Bool.or_eq_true, decide_eq_true_eq, and_assoc]

def MayI (l : List (Int × Int × ByteArray)) : Prop := l.length ≤ 32 ∧ ∀ i, i < l.length → (itL l i).2.2.size ≤ 20000

def mayIb (l : List (Int × Int × ByteArray)) : Bool := decide (l.length ≤ 32) && l.all (fun x => decide (x.2.2.size ≤ 20000))

theorem itL_get (l : List (Int × Int × ByteArray)) (i : Nat) (h : i < l.length) : itL l i = l[i] := by
  unfold itL; rw [List.getD_eq_getElem?_getD, List.getElem?_eq_getElem h]; rfl

theorem mayIb_iff (l : List (Int × Int × ByteArray)) : mayIb l = true ↔ MayI l := by
  unfold mayIb MayI
  rw [Bool.and_eq_true, decide_eq_true_eq, List.all_eq_true]
  refine ⟨fun h => ⟨h.1, fun i hi => ?_⟩, fun h => ⟨h.1, fun x hx => ?_⟩⟩
  · rw [itL_get l i hi]; exact of_decide_eq_true (h.2 _ (List.getElem_mem hi))
  · obtain ⟨i, hi, e⟩ := List.mem_iff_getElem.1 hx
    have := h.2 i hi
    rw [itL_get l i hi, e] at this
    exact decide_eq_true this

/-- What the code asks of a frame ahead of its writing; what the document asks. -/
def mayCb (F : FrmT) : Bool := decide (F.2.2.2.2.2.2.2 ≤ 999) && decide (F.2.2.2.2.2.1.size ≤ 20000) && mayIb F.2.2.2.2.2.2.1 && ownB F

def mayFb (F : FrmT) : Bool := mayCb F && (frPs F).all okP

def putFC (F : FrmT) : ByteArray × Int := putB (mayCb F) (frPs F)

theorem putF_same (F : FrmT) : putB (mayFb F) (frPs F) = putFC F := by
  unfold putFC
  apply putB_same
  unfold mayFb
  rw [Bool.and_eq_true, List.all_eq_true]

def readItC (i : ByteArray × Int) : (ByteArray × Int) × (Int × Int × ByteArray) :=
  ((inTextC (inNumP (inNumP i).1).1 20000).1, (((inNumP i).2 : Int), ((inNumP (inNumP i).1).2 : Int), (inTextC (inNumP (inNumP i).1).1 20000).2))

def readItP (i : ByteArray × Int) : (ByteArray × Int) × (Int × Int × ByteArray) :=
  ((inTextP (inNumP (inNumP i).1).1 20000).1, (((inNumP i).2 : Int), ((inNumP (inNumP i).1).2 : Int), (inTextP (inNumP (inNumP i).1).1 20000).2))

/-- A frame's head as it is read: what is left, Kind, Group, Seq, Epoch, Max, Err. -/
def readHd (i : ByteArray × Int) : (ByteArray × Int) × (Int × Int × Int × Int × Int × Int) :=
  let a := numberP i 1
  let b := inNumP a.1
  let c := inNumP b.1
  let d := inNumP c.1
  let e := inNumP d.1
  let f := inNumP e.1
  (f.1, ((a.2 : Int), (b.2 : Int), (c.2 : Int), (d.2 : Int), (e.2 : Int), (f.2 : Int)))

def readFC (i : ByteArray × Int) : (ByteArray × Int) × FrmT :=
  let h := readHd i
  let g := inTextC h.1 20000
  let n := numberP g.1 1
  let l := readLW readItC n.2 n.1
  (l.1, (h.2.1, h.2.2.1, h.2.2.2.1, h.2.2.2.2.1, h.2.2.2.2.2.1, g.2, l.2, h.2.2.2.2.2.2))

/-- As the document reads: how many there are told, what is left, the frame. -/
def readFP (i : ByteArray × Int) : Nat × (ByteArray × Int) × FrmT :=
  let h := readHd i
  let g := inTextP h.1 20000
  let n := numberP g.1 1
  let l := readLW readItP (min n.2 33) n.1
  (n.2, l.1, (h.2.1, h.2.2.1, h.2.2.2.1, h.2.2.2.2.1, h.2.2.2.2.2.1, g.2, l.2, h.2.2.2.2.2.2))

def frm0 : FrmT := (0, 0, 0, 0, 0, ⟨#[]⟩, [], 0)

def takeFC (s : ByteArray) : FrmT × Int := if (putFC (readFC (s, 0)).2).2 ≠ 0 ∨ (putFC (readFC (s, 0)).2).1 ≠ s then (frm0, 190) else ((readFC (s, 0)).2, 0)

def takeFP (s : ByteArray) : FrmT × Int := if inDoneP (readFP (s, 0)).2.1 ≠ 0 ∨ (readFP (s, 0)).2.2.2.2.2.2.2.2.1.length ≠ (readFP (s, 0)).1 ∨ 65536 < s.size ∨ mayFb (readFP (s, 0)).2.2 = false then (frm0, 190) else ((readFP (s, 0)).2.2, 0)

theorem readHd_back (F : FrmT) (T : ByteArray) (h : ∀ p ∈ frHd F, okP p = true) : ∃ X : ByteArray, encA (frHd F) ++ T = X ∧ readHd (X, 0) = ((encP (4, 0, 0, F.2.2.2.2.2.1) ++ (encP (1, (F.2.2.2.2.2.2.1.length : Int), 0, ⟨#[]⟩) ++ T), 0), (F.1, F.2.1, F.2.2.1, F.2.2.2.1, F.2.2.2.2.1, F.2.2.2.2.2.2.2)) := by
  obtain ⟨K, G, S, E, M, bl, it, er⟩ := F
  refine ⟨_, rfl, ?_⟩
  have e : encA (frHd (K, G, S, E, M, bl, it, er)) ++ T = encP (1, K, 0, ⟨#[]⟩) ++ (encP (2, G, 0, ⟨#[]⟩) ++ (encP (2, S, 0, ⟨#[]⟩) ++ (encP (2, E, 0, ⟨#[]⟩) ++ (encP (2, M, 0, ⟨#[]⟩) ++ (encP (2, er, 0, ⟨#[]⟩) ++ (encP (4, 0, 0, bl) ++ (encP (1, (it.length : Int), 0, ⟨#[]⟩) ++ T))))))) := by
    simp only [frHd, encA, append_mid, ByteArray.empty_append]
  rw [e]
  simp only [frHd, List.mem_cons, List.not_mem_nil, or_false, forall_eq_or_imp, forall_eq] at h
  obtain ⟨h1, h2, h3, h4, h5, h6, _, _⟩ := h
  have k1 := backC1 K 0 ⟨#[]⟩ (encP (2, G, 0, ⟨#[]⟩) ++ (encP (2, S, 0, ⟨#[]⟩) ++ (encP (2, E, 0, ⟨#[]⟩) ++ (encP (2, M, 0, ⟨#[]⟩) ++ (encP (2, er, 0, ⟨#[]⟩) ++ (encP (4, 0, 0, bl) ++ (encP (1, (it.length : Int), 0, ⟨#[]⟩) ++ T))))))) h1
  have k2 := backC2 G 0 ⟨#[]⟩ (encP (2, S, 0, ⟨#[]⟩) ++ (encP (2, E, 0, ⟨#[]⟩) ++ (encP (2, M, 0, ⟨#[]⟩) ++ (encP (2, er, 0, ⟨#[]⟩) ++ (encP (4, 0, 0, bl) ++ (encP (1, (it.length : Int), 0, ⟨#[]⟩) ++ T)))))) h2
  have k3 := backC2 S 0 ⟨#[]⟩ (encP (2, E, 0, ⟨#[]⟩) ++ (encP (2, M, 0, ⟨#[]⟩) ++ (encP (2, er, 0, ⟨#[]⟩) ++ (encP (4, 0, 0, bl) ++ (encP (1, (it.length : Int), 0, ⟨#[]⟩) ++ T))))) h3
  have k4 := backC2 E 0 ⟨#[]⟩ (encP (2, M, 0, ⟨#[]⟩) ++ (encP (2, er, 0, ⟨#[]⟩) ++ (encP (4, 0, 0, bl) ++ (encP (1, (it.length : Int), 0, ⟨#[]⟩) ++ T)))) h4
  have k5 := backC2 M 0 ⟨#[]⟩ (encP (2, er, 0, ⟨#[]⟩) ++ (encP (4, 0, 0, bl) ++ (encP (1, (it.length : Int), 0, ⟨#[]⟩) ++ T))) h5
  have k6 := backC2 er 0 ⟨#[]⟩ (encP (4, 0, 0, bl) ++ (encP (1, (it.length : Int), 0, ⟨#[]⟩) ++ T)) h6
  unfold readHd
  simp only [k1.1, k1.2, k2.1, k2.2, k3.1, k3.2, k4.1, k4.2, k5.1, k5.2, k6.1, k6.2]

theorem readIt_back (x : Int × Int × ByteArray) (T : ByteArray) (h : ∀ p ∈ itPs x, okP p = true) (hb : x.2.2.size ≤ 20000) : readItC (encA (itPs x) ++ T, 0) = ((T, 0), x) ∧ readItP (encA (itPs x) ++ T, 0) = ((T, 0), x) := by
  obtain ⟨a, b, s⟩ := x
  have e : encA (itPs (a, b, s)) ++ T = encP (2, a, 0, ⟨#[]⟩) ++ (encP (2, b, 0, ⟨#[]⟩) ++ (encP (4, 0, 0, s) ++ T)) := by
    simp only [itPs, encA, append_mid, ByteArray.empty_append]
  rw [e]
  simp only [itPs, List.mem_cons, List.not_mem_nil, or_false, forall_eq_or_imp, forall_eq] at h
  obtain ⟨h1, h2, h3⟩ := h
  have k1 := backC2 a 0 ⟨#[]⟩ (encP (2, b, 0, ⟨#[]⟩) ++ (encP (4, 0, 0, s) ++ T)) h1
  have k2 := backC2 b 0 ⟨#[]⟩ (encP (4, 0, 0, s) ++ T) h2
  have hb' : s.size ≤ 20000 := hb
  have k3 := backC4 0 0 s T 20000 (by omega) (by omega)
  have k4 := backQ4 0 0 s T 20000 (by omega) (by omega)
  unfold readItC readItP
  simp only [k1.1, k1.2, k2.1, k2.2, k3, k4]
  exact ⟨trivial, trivial⟩

theorem readF_back (F : FrmT) (h : ∀ p ∈ frPs F, okP p = true) (hb : F.2.2.2.2.2.1.size ≤ 20000) (hi : MayI F.2.2.2.2.2.2.1) : readFC (encA (frPs F), 0) = ((ByteArray.empty, 0), F) ∧ readFP (encA (frPs F), 0) = (F.2.2.2.2.2.2.1.length, (ByteArray.empty, 0), F) := by
  have h1 : ∀ p ∈ frHd F, okP p = true := fun p hp => h p (List.mem_append.2 (.inl hp))
  have h2 : ∀ p ∈ F.2.2.2.2.2.2.1.flatMap itPs, okP p = true := fun p hp => h p (List.mem_append.2 (.inr hp))
  obtain ⟨X, hX, hr⟩ := readHd_back F (encA (F.2.2.2.2.2.2.1.flatMap itPs)) h1
  have e : encA (frPs F) = X := by rw [← hX]; unfold frPs; rw [encA_snoc]
  rw [e]
  have h3 : okP (1, (F.2.2.2.2.2.2.1.length : Int), 0, ⟨#[]⟩) = true := h1 _ (by simp [frHd])
  have kt := backC4 0 0 F.2.2.2.2.2.1 (encP (1, (F.2.2.2.2.2.2.1.length : Int), 0, ⟨#[]⟩) ++ encA (F.2.2.2.2.2.2.1.flatMap itPs)) 20000 (by omega) (by omega)
  have kq := backQ4 0 0 F.2.2.2.2.2.1 (encP (1, (F.2.2.2.2.2.2.1.length : Int), 0, ⟨#[]⟩) ++ encA (F.2.2.2.2.2.2.1.flatMap itPs)) 20000 (by omega) (by omega)
  have kn := backC1 (F.2.2.2.2.2.2.1.length : Int) 0 ⟨#[]⟩ (encA (F.2.2.2.2.2.2.1.flatMap itPs)) h3
  have kn2 : (numberP (encP (1, (F.2.2.2.2.2.2.1.length : Int), 0, ⟨#[]⟩) ++ encA (F.2.2.2.2.2.2.1.flatMap itPs), 0) 1).2 = F.2.2.2.2.2.2.1.length := by have := kn.2; omega
  have hx : ∀ x ∈ F.2.2.2.2.2.2.1, (∀ p ∈ itPs x, okP p = true) ∧ x.2.2.size ≤ 20000 := by
    intro x hx
    refine ⟨fun p hp => h2 p (List.mem_flatMap.2 ⟨x, hx, hp⟩), ?_⟩
    obtain ⟨i, hi', e⟩ := List.mem_iff_getElem.1 hx
    have := hi.2 i hi'
    rwa [itL_get _ i hi', e] at this
  have r1 := readLW_back readItC itPs F.2.2.2.2.2.2.1 ByteArray.empty (fun x hx' T => (readIt_back x T (hx x hx').1 (hx x hx').2).1)
  have r2 := readLW_back readItP itPs F.2.2.2.2.2.2.1 ByteArray.empty (fun x hx' T => (readIt_back x T (hx x hx').1 (hx x hx').2).2)
  rw [ByteArray.append_empty] at r1 r2
  have hm : min F.2.2.2.2.2.2.1.length 33 = F.2.2.2.2.2.2.1.length := by have := hi.1; omega
  constructor
  · unfold readFC
    simp only [hr, kt, kn.1, kn2, r1]
  · unfold readFP
    simp only [hr, kq, kn.1, kn2, hm, r2]

theorem mayC_parts {F : FrmT} (h : mayCb F = true) : F.2.2.2.2.2.2.2 ≤ 999 ∧ F.2.2.2.2.2.1.size ≤ 20000 ∧ MayI F.2.2.2.2.2.2.1 ∧ OwnFr F := by
  unfold mayCb at h
  simp only [Bool.and_eq_true, decide_eq_true_eq] at h
  exact ⟨h.1.1.1, h.1.1.2, (mayIb_iff _).1 h.1.2, (ownB_iff _).1 h.2⟩

/-- What the code takes is what was put. -/
theorem takeFC_put (F : FrmT) (s : ByteArray) (h : putFC F = (s, 0)) : takeFC s = (F, 0) := by
  obtain ⟨h1, h2, h3⟩ := putB_inv _ _ s h
  obtain ⟨k1, k2, k3, k4⟩ := mayC_parts h1
  have hr := (readF_back F h2 k2 k3).1
  rw [← h3] at hr
  unfold takeFC
  rw [hr]
  simp only
  rw [h, if_neg (by simp)]

theorem takeFC_none (s : ByteArray) (h : ∀ F, putFC F ≠ (s, 0)) : takeFC s = (frm0, 190) := by
  unfold takeFC
  rw [if_pos]
  by_cases h1 : (putFC (readFC (s, 0)).2).2 = 0
  · refine .inr fun h2 => h _ (Prod.ext h2 h1)
  · exact .inl h1

theorem takeFC_inv (s : ByteArray) (h : (takeFC s).2 = 0) : putFC (takeFC s).1 = (s, 0) := by
  unfold takeFC at h ⊢
  by_cases hc : (putFC (readFC (s, 0)).2).2 ≠ 0 ∨ (putFC (readFC (s, 0)).2).1 ≠ s
  · rw [if_pos hc] at h; cases h
  · rw [if_neg hc]
    exact Prod.ext (Classical.byContradiction fun k => hc (.inr k)) (Classical.byContradiction fun k => hc (.inl k))

end Go.Proofs.YtkmdajenbidaaaaDoor
