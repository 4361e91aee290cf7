/- The library's maps.Copy at nodes (layer 11). -/
import Derived.Test.YtaomhhooipfjbaaDoorTmD
import Derived.Test.YtaomhhooipfjbaaDoorTrS
namespace Go.Proofs.YtaomhhooipfjbaaDoor
open Go.RowKit
set_option linter.unusedSimpArgs false

theorem MapR.grown {w w' : World} {row : Option Nat} {r it : Nat} {ns rest : List NodeT} (h : MapR w r it ns rest) (hg : w.grownBy w' row) (h1 : some r ≠ row) (h2 : some it ≠ row) : MapR w' r it ns rest :=
  h.block (hg.block r h.map.lt h1) (hg.block it h.lt h2)

theorem MapR.on {w w' : World} {r it : Nat} {ns rest : List NodeT} (h : MapR w r it ns rest) (hb : Below w.heap.size w w') : MapR w' r it ns rest :=
  h.block (hb.block r h.map.lt) (hb.block it h.lt)

/-- What is still to come, put beside what was put, is all that there is. -/
theorem copy_step {ns m rest rest' : List NodeT} {n : NodeT} (hs : SortN ns) (h : (m ++ rest).Perm ns) (hr : rest.Perm (n :: rest')) : (withR n m ++ rest').Perm ns := by
  have hn : ((m ++ n :: rest').map (fun x => x.1)).Nodup := by
    refine ((((List.Perm.refl m).append hr).symm.trans h).map (fun x : NodeT => x.1)).nodup_iff.2 ?_
    unfold SortN at hs
    rw [List.nodup_iff_pairwise_ne, List.pairwise_map]
    exact hs.imp (fun hl e => by rw [e] at hl; exact lessS_self _ hl)
  have hf : m.filter (fun z => decide (z.1 ≠ n.1)) = m := List.filter_eq_self.2 (fun z hz => by
    rw [List.map_append, List.nodup_append] at hn
    have := hn.2.2 z.1 (List.mem_map.2 ⟨z, hz, rfl⟩) n.1 (by simp)
    simpa using this)
  have h1 := withR_perm n m
  rw [hf] at h1
  refine (h1.append (List.Perm.refl rest')).trans (.trans ?_ (((List.Perm.refl m).append hr).symm.trans h))
  exact (List.perm_middle (a := n) (l₁ := m) (l₂ := rest')).symm

theorem MapR.left {w : World} {r it : Nat} {ns rest : List NodeT} (h : MapR w r it ns rest) : w.rangeLeft r it = rest.length := by
  obtain ⟨_, l, _, rl, h2, rfl⟩ := h
  obtain ⟨es, clock, since, seen, c0, k1, _, _, k4, _, _, _, k8⟩ := h2
  simp only [World.rangeLeft, k1, k4]
  have := congrArg List.length k8
  simpa using this

theorem next_all {w : World} {it : Nat} {v : Value} {w' : World} (h : (Instr.next (.pointer (some ⟨it, 0, none⟩)) false 0).run Tryd.prog w = .ok v w') : ∀ ty, (Instr.next (.pointer (some ⟨it, 0, none⟩)) false ty).run Tryd.prog w = .ok v w' := fun _ => h

set_option maxRecDepth 100000 in
set_option maxHeartbeats 4000000 in
theorem copy_any (ns : List NodeT) (bd bs : Nat) (w : World) (hne : bd ≠ bs) (hD : MapN w bd []) (hS : MapN w bs ns) :
    Calls Tryd.prog 42 #[.map (some bd), .map (some bs)] w fun e w' => e = .returned (.tuple #[]) ∧ MapN w' bd ns ∧ w.grownBy w' (some bd) := by
  obtain ⟨w0, all, hrun, hall, hR0, hg0, hsz0⟩ := hS.range
  have hdl := hD.lt
  have hsl := hS.lt
  have HD0 : Hid (MapN w0 bd []) := hD.grown hg0 (by simp)
  have HR0 : Hid (MapR w0 bs w.heap.size ns all) := hR0
  have HA : Hid (all.Perm ns) := hall
  have HG0 : Hid (w.grownBy w0 none) := hg0
  have HSN : Hid (SortN ns) := hS.sort
  clear hR0 hall hg0 hD hS
  go_enter Tryd.func42, Tryd.ntmps42
  go_wp2_with fail
  go_loopw [4] (fun _ wr => ∃ (m rest : List NodeT), Hid (MapR wr bs w.heap.size ns rest) ∧ Hid (MapN wr bd m) ∧ Hid ((m ++ rest).Perm ns) ∧ Hid (w.grownBy wr (some bd))) (fun _ wr => wr.rangeLeft bs w.heap.size)
  case atStart => exact ⟨[], all, HR0, HD0, HA, HG0.out.but _⟩
  case round =>
    clear HR0 HD0 HA HG0 hrun
    obtain ⟨m, rest, HR, HD, HP, HG⟩ := hrel
    rcases HR.out.next 0 with ⟨h0, hnx⟩ | ⟨n, rest', w2, hp, hnx, hR2, hg2, hs2, hen⟩
    · have hnx' := next_all hnx
      have HE : Hid (m = ns) := by
        have h1 := HP.out
        rw [h0, List.append_nil] at h1
        exact sortN_perm HD.out.sort HSN.out h1
      clear hnx h0
      go_wp2_with fail
      go_end0
      exact ⟨rfl, by rw [← HE.out]; exact HD.out, HG.out⟩
    · have hnx' := next_all hnx
      have hil := hR2.lt
      have hits := hR2.ne
      have hitw : w.heap.size ≤ w.heap.size := Nat.le_refl _
      have hD2 : MapN w2 bd m := HD.out.grown hg2 (by simp; omega)
      have HG2 : Hid (w.grownBy w2 (some bd)) := HG.out.andThen hg2 (fun j hj => .inl (by cases hj; exact Nat.le_refl _))
      have HP2 : Hid ((withR n m ++ rest').Perm ns) := copy_step HSN.out HP.out hp
      have hlen : rest'.length < rest.length := by have := hp.length_eq; simp at this; omega
      have HLr : Hid (wr.rangeLeft bs w.heap.size = rest.length) := HR.out.left
      obtain ⟨⟨n1, n2⟩, ⟨n3, n4⟩, n5, n6⟩ := n
      simp only [keyV, nodeV, nodeA] at hnx' hen
      have hbb := (below_new w2 (.cells #[.int .i64 n1, .int .i64 n2] 28)).alloc (by simp) (.cells #[.int .i64 n1, .int .i64 n2, .int .i64 n3, .int .i64 n4, .string n5, .string n6] 40)
      obtain ⟨w4, hput, hM4, hg4⟩ := (hD2.on hbb).put ((n1, n2), (n3, n4), n5, n6)
      simp only [keyV, nodeV, nodeA] at hput
      have HR4 : Hid (MapR w4 bs w.heap.size ns rest') := (hR2.on hbb).grown hg4 (by simp; omega) (by simp; omega)
      have HG4 : Hid (w.grownBy w4 (some bd)) := (HG2.out.andThen (grown_of_below hbb none) (fun j hj => by cases hj)).andThen hg4 (fun j hj => .inr hj)
      have HM4 : Hid (MapN w4 bd (withR ((n1, n2), (n3, n4), n5, n6) m)) := hM4
      clear hnx HR HD HP HG hR2 hg2 hs2 hD2 HG2 hM4 hg4 hbb hp
      go_wp2_with fail
      go_roundw
      case rel => exact ⟨_, rest', HR4, HM4, HP2, HG4⟩
      case measure => rw [HR4.out.left, HLr.out]; exact hlen
end Go.Proofs.YtaomhhooipfjbaaDoor
