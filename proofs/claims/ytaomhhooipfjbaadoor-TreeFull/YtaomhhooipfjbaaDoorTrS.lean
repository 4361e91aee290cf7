/- Layer 11 on plain data: nodes sorted by their numbers. -/
import Derived.Test.YtaomhhooipfjbaaDoorTrP
import Derived.Shelf.SlSortCmp.WholeK
namespace Go.Proofs.YtaomhhooipfjbaaDoor
open Go.RowKit Go.Sort
set_option linter.unusedSimpArgs false

theorem sortN_perm {l m : List NodeT} (hl : SortN l) (hm : SortN m) (h : l.Perm m) : l = m := by
  refine sortN_ext hl hm (fun id => ?_)
  cases k : look l id with
  | some x =>
    obtain ⟨h1, h2⟩ := look_mem k
    rw [← h2]; exact (look_is hm (h.subset h1)).symm
  | none =>
    refine (look_none.2 (fun x hx => look_none.1 k x (h.symm.subset hx))).symm

/-- How two stamps stand. -/
def ordS (a b : Int × Int) : Int := if LessS a b then -1 else if LessS b a then 1 else 0

theorem ordS_lt (a b : Int × Int) : ordS a b < 0 ↔ LessS a b := by
  unfold ordS
  by_cases h : LessS a b
  · rw [if_pos h]; exact ⟨fun _ => h, fun _ => by decide⟩
  · rw [if_neg h]
    by_cases k : LessS b a
    · rw [if_pos k]; exact ⟨fun h => absurd h (by decide), fun h2 => absurd h2 h⟩
    · rw [if_neg k]; exact ⟨fun h => absurd h (by decide), fun h2 => absurd h2 h⟩

theorem ordS_eq (a b : Int × Int) : ordS a b = 0 ↔ a = b := by
  unfold ordS
  by_cases h : LessS a b
  · rw [if_pos h]; exact ⟨fun h => absurd h (by decide), fun e => by rw [e] at h; exact absurd h (lessS_self _)⟩
  · rw [if_neg h]
    by_cases k : LessS b a
    · rw [if_pos k]; exact ⟨fun h => absurd h (by decide), fun e => by rw [e] at k; exact absurd k (lessS_self _)⟩
    · rw [if_neg k]
      refine ⟨fun _ => ?_, fun _ => rfl⟩
      by_cases e : a = b
      · exact e
      · exact absurd (lessS_or _ _ h e) k

def cmpN (x y : NodeT) : Int := ordS x.1 y.1

theorem ltN (x y : NodeT) : ltOf cmpN x y = decide (LessS x.1 y.1) := by
  unfold ltOf cmpN
  by_cases h : LessS x.1 y.1
  · rw [decide_eq_true h, decide_eq_true ((ordS_lt _ _).2 h)]
  · rw [decide_eq_false h, decide_eq_false (fun k => h ((ordS_lt _ _).1 k))]

theorem swoN : SWO (ltOf cmpN) where
  irrefl x := by rw [ltN]; exact decide_eq_false (lessS_self _)
  trans x y z h1 h2 := by
    rw [ltN, decide_eq_true_eq] at *
    exact lessS_trans _ _ _ h1 h2
  ntrans x y z h1 h2 := by
    rw [ltN, decide_eq_false_iff_not] at *
    intro h
    by_cases e : y.1 = x.1
    · rw [e] at h2; exact h2 h
    · have h3 := lessS_or _ _ h1 (fun k => e k.symm)
      exact h2 (lessS_trans _ _ _ h3 h)


theorem sorted_nodes {d d' : Array NodeT} {ns : List NodeT} (hs : SortN ns) (hp : d.toList.Perm ns) (h1 : PermIn 0 d.size d d') (h2 : SortedIn (ltOf cmpN) 0 d.size d') : d'.toList = ns := by
  obtain ⟨k1, _, k3⟩ := h1
  rw [← k1] at k3 h2
  rw [Array.extract_size, show d.extract 0 d'.size = d by rw [k1, Array.extract_size]] at k3
  have hp' : d'.toList.Perm ns := k3.trans hp
  refine sortN_perm ?_ hs hp'
  have hn : (d'.toList.map (fun n => n.1)).Nodup := by
    refine (hp'.map (fun n : NodeT => n.1)).nodup_iff.2 ?_
    unfold SortN at hs
    rw [List.nodup_iff_pairwise_ne, List.pairwise_map]
    exact hs.imp (fun hl e => by rw [e] at hl; exact lessS_self _ hl)
  unfold SortN
  rw [List.pairwise_iff_getElem]
  intro i j hi hj hij
  have hi' : i < d'.size := by simpa using hi
  have hj' : j < d'.size := by simpa using hj
  have h := h2 i j (Nat.zero_le _) hij hj'
  rw [ltN, decide_eq_false_iff_not, getElem!_pos d' j hj', getElem!_pos d' i hi'] at h
  rw [Array.getElem_toList, Array.getElem_toList]
  refine lessS_or _ _ h (fun e => ?_)
  rw [List.nodup_iff_pairwise_ne, List.pairwise_map, List.pairwise_iff_getElem] at hn
  have := hn i j hi hj hij
  rw [Array.getElem_toList, Array.getElem_toList] at this
  exact this e.symm

end Go.Proofs.YtaomhhooipfjbaaDoor
