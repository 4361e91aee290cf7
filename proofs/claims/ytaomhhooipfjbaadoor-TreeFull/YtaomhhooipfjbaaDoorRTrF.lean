/- The document's with (layer 11). -/
import Derived.Test.YtaomhhooipfjbaaDoorRTrE
namespace Go.Proofs.YtaomhhooipfjbaaDoor
open Go.RowKit
set_option linter.unusedSimpArgs false

theorem Tryd.infoNode : (Tryd.prog.info? 40).map (fun i => (i.zero, i.size, i.bytes)) = some (some (.agg #[.int .i64 0, .int .i64 0, .int .i64 0, .int .i64 0, .string ⟨#[]⟩, .string ⟨#[]⟩]), 6, 64) := by kernel_rfl

theorem nodeA_one (x : (Int × Int) × (Int × Int) × ByteArray × ByteArray) : ∀ u ∈ (nodeA x).toList, u.oneCell' = true := by
  intro u hu
  simp [nodeA] at hu
  rcases hu with rfl | rfl | rfl | rfl | rfl | rfl <;> rfl

theorem own_on {w w' : World} {B : Nat} {v : Value} {l : List ((Int × Int) × (Int × Int) × ByteArray × ByteArray)} (h : OwnN w B v l) (hb : Below w.heap.size w w') : OwnN w' B v l := by
  obtain ⟨hl, h | ⟨g, cap, cur, hv, hB, hc, r⟩⟩ := h
  · exact ⟨hl, .inl h⟩
  · exact ⟨hl, .inr ⟨g, cap, cur, hv, hB, by rw [hb.block g (Array.getElem?_eq_some_iff.1 hc).1]; exact hc, r⟩⟩

theorem own_less {w : World} {B B' : Nat} {v : Value} {l : List ((Int × Int) × (Int × Int) × ByteArray × ByteArray)} (h : OwnN w B v l) (hb : B' ≤ B) : OwnN w B' v l := by
  obtain ⟨hl, h | ⟨g, cap, cur, hv, hB, r⟩⟩ := h
  · exact ⟨hl, .inl h⟩
  · exact ⟨hl, .inr ⟨g, cap, cur, hv, Nat.le_trans hb hB, r⟩⟩



end Go.Proofs.YtaomhhooipfjbaaDoor
