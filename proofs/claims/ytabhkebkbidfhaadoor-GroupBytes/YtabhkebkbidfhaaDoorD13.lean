import Derived.Test.YtabhkebkbidfhaaDoorS13
import Derived.Test.YtabhkebkbidfhaaDoorTk
/- The document's op, PutOp (layer 13). -/
namespace Go.Proofs.YtabhkebkbidfhaaDoor
open Go.RowKit
set_option maxRecDepth 100000
set_option linter.unusedSimpArgs false

/-- The document's writing: the cell of what is written, the operation's, the answer's. -/
structure RoS (w : World) (h : Nat) (o : Array Value) (cs : Array Value) (W : World) : Prop where
  x : Blk W 81 h o
  y : Blk W 28 (h + 1) cs
  z : Blk W 81 (h + 2) #[.string ⟨#[]⟩, .bool false]
  bel : Below w.heap.size w W
  low : w.heap.size ≤ h

theorem RoS.on {w : World} {h : Nat} {o cs : Array Value} {W W' : World} (k : RoS w h o cs W) (hb : Below W.heap.size W W') : RoS w h o cs W' := ⟨k.x.on hb, k.y.on hb, k.z.on hb, below_step k.bel (Nat.le_refl _) hb, k.low⟩

theorem RoS.set {w : World} {h : Nat} {o cs : Array Value} {W : World} (k : RoS w h o cs W) (o' : Array Value) : RoS w h o' cs (W.setRow h o') := ⟨k.x.setRow _, k.y.setRowOther _ (by omega) _, k.z.setRowOther _ (by omega) _, below_setRow k.bel k.low _, k.low⟩

theorem textP_size (o : ByteArray × Bool) (s : ByteArray) (h : o.1.size ≤ 65536) : (textP o s).1.size ≤ 65536 := by
  unfold textP
  split <;> exact layP_size _ _ _ h

end Go.Proofs.YtabhkebkbidfhaaDoor

/- The document's takeOp, TakeOp (layer 13). -/
namespace Go.Proofs.YtabhkebkbidfhaaDoor
open Go.RowKit
set_option maxRecDepth 100000
set_option linter.unusedSimpArgs false

/-- The document's reading: the cell of what is read, the answers', the operation's. -/
structure RtS (w : World) (h : Nat) (i : Array Value) (cs : Array Value) (W : World) : Prop where
  x : Blk W 88 h i
  z : Blk W 88 (h + 1) #[.string ⟨#[]⟩, .int .i64 0]
  y : Blk W 28 (h + 1 + 1) #[.int .i64 0, .int .i64 0, .int .i64 0, .int .i64 0, .int .i64 0, .int .i64 0, .int .i64 0, .string ⟨#[]⟩, .string ⟨#[]⟩]
  a : Blk W 28 (h + 1 + 1 + 1) cs
  bel : Below w.heap.size w W
  low : w.heap.size ≤ h

theorem RtS.on {w : World} {h : Nat} {i cs : Array Value} {W W' : World} (k : RtS w h i cs W) (hb : Below W.heap.size W W') : RtS w h i cs W' := ⟨k.x.on hb, k.z.on hb, k.y.on hb, k.a.on hb, below_step k.bel (Nat.le_refl _) hb, k.low⟩

theorem RtS.set {w : World} {h : Nat} {i cs : Array Value} {W : World} (k : RtS w h i cs W) (i' : Array Value) : RtS w h i' cs (W.setRow h i') := ⟨k.x.setRow _, k.z.setRowOther _ (by omega) _, k.y.setRowOther _ (by omega) _, k.a.setRowOther _ (by omega) _, below_setRow k.bel k.low _, k.low⟩

theorem RtS.put {w : World} {h : Nat} {i cs : Array Value} {W : World} (k : RtS w h i cs W) (j : Nat) (u : Value) : RtS w h i (cs.setIfInBounds j u) (W.setCell ⟨h + 1 + 1 + 1, j, none⟩ u) := by
  have hl := k.low
  exact ⟨k.x.grown (grown_set W (h + 1 + 1 + 1) j u) (fun e => by have := Option.some.inj e; omega), k.z.grown (grown_set W (h + 1 + 1 + 1) j u) (fun e => by have := Option.some.inj e; omega), k.y.grown (grown_set W (h + 1 + 1 + 1) j u) (fun e => by have := Option.some.inj e; omega), k.a.setAt j u, k.bel.setCell (p := ⟨h + 1 + 1 + 1, j, none⟩) (by show _ ≤ h + 1 + 1 + 1; omega) u, k.low⟩

theorem inStampP_size (i : ByteArray × Int) : (inStampP i).1.1.size ≤ i.1.size := by
  have h := Nat.le_trans (numberP_size (inNumP i).1 1) (inNumP_size i)
  unfold inStampP
  split <;> exact h

theorem inTextP_size (i : ByteArray × Int) (most : Int) : (inTextP i most).1.1.size ≤ i.1.size := by
  have h := numberP_size i 2
  unfold inTextP
  split
  · exact h
  · split
    · exact Nat.zero_le _
    · split
      · exact Nat.zero_le _
      · simp only [ByteArray.size_extract]; omega

end Go.Proofs.YtabhkebkbidfhaaDoor

/- The document's TakeOp (layer 13). -/
namespace Go.Proofs.YtabhkebkbidfhaaDoor
open Go.RowKit
set_option maxRecDepth 100000
set_option linter.unusedSimpArgs false

theorem inTextP_res (i : ByteArray × Int) (most : Int) : (inTextP i most).2.size ≤ 1048576 := by
  have h := number2_lt i
  unfold inTextP
  split
  · exact Nat.zero_le _
  · split
    · exact Nat.zero_le _
    · split
      · exact Nat.zero_le _
      · simp only [ByteArray.size_extract]; omega

theorem readOpP_sizes (i : ByteArray × Int) : (readOpP i).2.2.2.2.2.1.size ≤ 1048576 ∧ (readOpP i).2.2.2.2.2.2.size ≤ 9223372036854775807 := by
  unfold readOpP
  simp only
  exact ⟨inTextP_res _ _, Nat.le_trans (inTextP_res _ _) (by decide)⟩

end Go.Proofs.YtabhkebkbidfhaaDoor
