/- The code's change, create, move, do (layer 11). -/
import Derived.Test.YtaomhhooipfjbaaDoorTmH
namespace Go.Proofs.YtaomhhooipfjbaaDoor
open Go.RowKit
set_option linter.unusedSimpArgs false

theorem grown_of_below {w w' : World} (h : Below w.heap.size w w') (row : Option Nat) : w.grownBy w' row := ⟨h.os, h.tape, h.output, h.size, fun i hi _ => h.block i hi⟩

theorem MapN.grown {w w' : World} {r : Nat} {row : Option Nat} {ns : List NodeT} (h : MapN w r ns) (hg : w.grownBy w' row) (hr : some r ≠ row) : MapN w' r ns := h.block (hg.block r h.lt hr)

set_option maxRecDepth 100000 in
set_option maxHeartbeats 4000000 in
/-- A node turned by a function that is handed its address. -/
theorem change_any (ns : List NodeT) (r : Nat) (id : Int × Int) (f : NodeT → NodeT) (hf : ∀ n, (f n).1 = n.1) (gf B : Nat) (w : World) (hM : MapN w r ns) (eg : ∀ args w, (callFunc gf args).run Tryd.prog w = .ok (.enter gf args) w)
    (hC : ∀ (n : NodeT) (g : Nat) (W : World), Below w.heap.size w W → w.heap.size ≤ g → Blk W 40 g (nodeA n) → Calls Tryd.prog gf #[.pointer (some ⟨g, 0, none⟩), .pointer (some ⟨B, 0, none⟩)] W fun e W' => e = .returned (.tuple #[]) ∧ Blk W' 40 g (nodeA (f n)) ∧ W.grownBy W' (some g)) :
    Calls Tryd.prog 50 #[.map (some r), stampV id, .func (.func gf) #[] #[.pointer (some ⟨B, 0, none⟩)]] w fun e w' => e = .returned (.tuple #[]) ∧ MapN w' r (changeP ns id f) ∧ w.grownBy w' (some r) := by
  obtain ⟨E, HE⟩ : ∃ E, Hid (E = changeP ns id f) := ⟨_, rfl⟩
  rw [← HE.out]
  obtain ⟨x, y⟩ := id
  obtain ⟨n, b, hb, hl⟩ := mapN_two hM x y
  have hl1 := fun o => hl (w.alloc o) (below_new w o)
  have HM : Hid (MapN w r ns) := hM
  have HL : Hid (look ns (x, y) = if b then some n else none) := hb
  have hrl := hM.lt
  show Calls Tryd.prog _ #[_, .agg #[.int .i64 x, .int .i64 y], _] w _
  clear hl hM hb
  cases b with
  | false =>
    have hE : E = ns := by rw [HE.out]; unfold changeP; rw [HL.out]; rfl
    have HE' : Hid (E = ns) := hE
    clear hE HE HL hC eg
    go_enter Tryd.func50, Tryd.ntmps50
    go_wp2_with fail
    go_end0
    rw [HE'.out]
    have hbb := (below_new w (.cells #[.int .i64 x, .int .i64 y] 28)).alloc (by simp) (.cells #[.int .i64 n.1.1, .int .i64 n.1.2, .int .i64 n.2.1.1, .int .i64 n.2.1.2, .string n.2.2.1, .string n.2.2.2] 40)
    exact ⟨rfl, HM.out.on hbb, grown_of_below hbb _⟩
  | true =>
    have HE' : Hid (E = withR (f n) ns) := by show _ = _; rw [HE.out]; unfold changeP; rw [HL.out]; rfl
    have hid : n.1 = (x, y) := (look_mem HL.out).2
    have HF : Hid ((f n).1 = (x, y)) := (hf n).trans hid
    have HC : Hid (∀ (W : World), Below w.heap.size w W → Blk W 40 (w.heap.size + 1) (nodeA n) → Calls Tryd.prog gf #[.pointer (some ⟨w.heap.size + 1, 0, none⟩), .pointer (some ⟨B, 0, none⟩)] W fun e W' => e = .returned (.tuple #[]) ∧ Blk W' 40 (w.heap.size + 1) (nodeA (f n)) ∧ W.grownBy W' (some (w.heap.size + 1))) := fun W hW hB => hC n _ W hW (by omega) hB
    clear HE HL hC hf hid
    go_enter Tryd.func50, Tryd.ntmps50
    go_wp2_with fail
    obtain ⟨W1, hW1⟩ : ∃ W1, (w.alloc (.cells #[.int .i64 x, .int .i64 y] 28)).alloc (.cells #[.int .i64 n.1.1, .int .i64 n.1.2, .int .i64 n.2.1.1, .int .i64 n.2.1.2, .string n.2.2.1, .string n.2.2.2] 40) = W1 := ⟨_, rfl⟩
    rw [hW1]
    have hB1 : Below w.heap.size w W1 := by rw [← hW1]; exact (below_new w _).alloc (by simp) _
    have hK1 : Blk W1 40 (w.heap.size + 1) (nodeA n) := by rw [← hW1]; exact Blk.new' _ _ _ _ (by simp)
    have hI1 : Blk W1 28 w.heap.size #[.int .i64 x, .int .i64 y] := by rw [← hW1]; exact (Blk.new _ _ _).alloc _
    clear hW1
    refine (HC.out W1 hB1 hK1).mono ?_
    rintro e w2 ⟨rfl, hK2, hg2⟩
    have hI2 := hI1.grown hg2 (by simp)
    have c0 : w2.cell? ⟨w.heap.size, 0, none⟩ = some (.int .i64 x) := hI2.cell 0
    have c1 : w2.cell? ⟨w.heap.size, 1, none⟩ = some (.int .i64 y) := hI2.cell 1
    have hM2 : MapN w2 r ns := (HM.out.on hB1).grown hg2 (by simp; omega)
    obtain ⟨w3, hp, hM3, hg3⟩ := hM2.put (f n)
    have hG3 : Hid (w.grownBy w3 (some r)) := ((grown_of_below hB1 (some r)).andThen hg2 (fun j hj => .inl (by cases hj; omega))).andThen hg3 (fun j hj => .inr hj)
    have HM3 : Hid (MapN w3 r E) := by show MapN w3 r E; rw [HE'.out]; exact hM3
    rw [HF.out] at hp
    obtain ⟨⟨⟨m1, m2⟩, ⟨m3, m4⟩, m5, m6⟩, hm⟩ : ∃ m, m = f n := ⟨_, rfl⟩
    rw [← hm] at hp hK2
    have k0 : w2.cell? ⟨w.heap.size + 1, 0, none⟩ = some (.int .i64 m1) := hK2.cell 0
    have k1 : w2.cell? ⟨w.heap.size + 1, 1, none⟩ = some (.int .i64 m2) := hK2.cell 1
    have k2 : w2.cell? ⟨w.heap.size + 1, 2, none⟩ = some (.int .i64 m3) := hK2.cell 2
    have k3 : w2.cell? ⟨w.heap.size + 1, 3, none⟩ = some (.int .i64 m4) := hK2.cell 3
    have k4 : w2.cell? ⟨w.heap.size + 1, 4, none⟩ = some (.string m5) := hK2.cell 4
    have k5 : w2.cell? ⟨w.heap.size + 1, 5, none⟩ = some (.string m6) := hK2.cell 5
    simp only [keyV, nodeV, nodeA] at hp
    clear HC HM HE' HF hm hK2 hI1 hI2 hB1 hK1 hg2 hM2 hM3 hg3 hl1
    go_wp2_with fail
    go_end0
    exact ⟨rfl, HM3.out, hG3.out⟩
end Go.Proofs.YtaomhhooipfjbaaDoor
