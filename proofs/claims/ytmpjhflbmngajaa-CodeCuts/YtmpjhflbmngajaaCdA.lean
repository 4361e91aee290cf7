/- The code's Out (layer 9): as it was made; whether it is well; spoilt; bytes laid behind. -/
import Derived.Test.YtmpjhflbmngajaaKept
import Derived.Test.YtmpjhflbmngajaaR9
import Derived.LaidEqlPtr
namespace Go.Proofs.Ytmpjhflbmngajaa
open Go.RowKit
set_option linter.unusedSimpArgs false

/-- An Out at block g that holds S in the row v; one that is spoilt, or that nobody made. -/
def OutOk (w : World) (g : Nat) (v : Value) (S : ByteArray) : Prop :=
  Blk w 51 g #[.pointer (some ⟨g, 0, none⟩), v] ∧ RowB w 5 v S ∧ v.ownBlock ≠ some g ∧ S.size ≤ 65536
def OutBad (w : World) (g : Nat) : Prop := Blk w 51 g #[.pointer none, .slice none 0 0]
theorem OutOk.on {w w' : World} {g : Nat} {v : Value} {S : ByteArray} (h : OutOk w g v S) (hb : Below w.heap.size w w') : OutOk w' g v S := ⟨h.1.on hb, h.2.1.on hb, h.2.2⟩
theorem OutBad.on {w w' : World} {g : Nat} (h : OutBad w g) (hb : Below w.heap.size w w') : OutBad w' g := Blk.on h hb

theorem eql_nil_some {P : Program} {tp te : TypeId} (w : World) (a : Addr) (hp : P.underlying tp = some (.pointer te)) : (binOp .eql tp (.pointer none) (.pointer (some a))).run P w = .ok (.bool false) w := by
  have h : ∀ d : Nat, (Op.equalIn (d + 1) tp (.pointer none) (.pointer (some a))).run P w = .ok false w := fun d => by
    simp [Op.equalIn, run_underlying hp]
  simp only [binOp]
  simp [Op.equal, Op.maxDepth, h 9999]
theorem Try.outInfo : (Try.prog.info? 51).map (·.size) = some 2 := by kernel_rfl

set_option maxHeartbeats 1000000 in
set_option maxRecDepth 100000 in
theorem newOut_any (w : World) : Calls Try.prog 8 #[] w fun e w' => e = .returned (.pointer (some ⟨w.heap.size, 0, none⟩)) ∧ OutOk w' w.heap.size (.slice none 0 0) ByteArray.empty ∧ Below w.heap.size w w' := by
  go_enter Try.func8, Try.ntmps8
  go_wp2
  go_ret
  refine ⟨rfl, ⟨Blk.new w _ _, RowB.nil _ _, by simp [Value.ownBlock], by decide⟩, below_new w _⟩

set_option maxHeartbeats 1000000 in
set_option maxRecDepth 100000 in
theorem owell_ok (g : Nat) (v : Value) (w : World) (h : Blk w 51 g #[.pointer (some ⟨g, 0, none⟩), v]) :
    Calls Try.prog 30 #[.pointer (some ⟨g, 0, none⟩)] w fun e w' => e = .returned (.bool true) ∧ w' = w := by
  obtain ⟨j, hj, _⟩ := Option.map_eq_some_iff.1 Try.outInfo
  have c0 : w.cell? ⟨g, 0, none⟩ = some (.pointer (some ⟨g, 0, none⟩)) := h.cell 0
  have hq := run_eql_ptr_same (P := Try.prog) w ⟨g, 0, none⟩ Try.underlying23 hj
  go_enter Try.func30, Try.ntmps30
  go_wp2
  go_ret
  exact ⟨rfl, rfl⟩
set_option maxHeartbeats 1000000 in
set_option maxRecDepth 100000 in
theorem owell_bad (g : Nat) (w : World) (h : OutBad w g) :
    Calls Try.prog 30 #[.pointer (some ⟨g, 0, none⟩)] w fun e w' => e = .returned (.bool false) ∧ w' = w := by
  have c0 : w.cell? ⟨g, 0, none⟩ = some (.pointer none) := Blk.cell h 0
  have hq := eql_nil_some (P := Try.prog) w ⟨g, 0, none⟩ Try.underlying23
  go_enter Try.func30, Try.ntmps30
  go_wp2
  go_ret
  exact ⟨rfl, rfl⟩
set_option maxHeartbeats 1000000 in
set_option maxRecDepth 100000 in
theorem owell_nil (w : World) :
    Calls Try.prog 30 #[.pointer none] w fun e w' => e = .returned (.bool false) ∧ w' = w := by
  go_enter Try.func30, Try.ntmps30
  go_wp2
  go_ret
  exact ⟨rfl, rfl⟩

set_option maxHeartbeats 1000000 in
set_option maxRecDepth 100000 in
theorem ospoil_any (g : Nat) (v : Value) (w : World) (h : Blk w 51 g #[.pointer (some ⟨g, 0, none⟩), v]) :
    Calls Try.prog 46 #[.pointer (some ⟨g, 0, none⟩)] w fun e w' => e = .returned (.bool false) ∧ OutBad w' g ∧ Kept2 g none w w' := by
  go_enter Try.func46, Try.ntmps46
  go_wp2_with (with_reducible refine wpList_storeBlk rfl 51 _ _ rfl g #[.pointer (some ⟨g, 0, none⟩), v] #[.pointer none, .slice none 0 0] ?hx ?hy h rfl ?hi ?h1 ?_)
  try (case hx => rfl)
  try (case hy => rfl)
  try (case hi => kernel_rfl)
  try (case h1 => simp [Value.oneCell'])
  go_ret
  exact ⟨rfl, h.setRow _, (Kept2.refl g none w).setRow _⟩
end Go.Proofs.Ytmpjhflbmngajaa
