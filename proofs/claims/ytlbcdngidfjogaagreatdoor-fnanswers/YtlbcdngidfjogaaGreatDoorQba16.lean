/- What the proof of the claim needs (joined by program): ApX. -/
import Derived.Test.YtlbcdngidfjogaaGreatDoorQba12
namespace Go.Proofs.YtlbcdngidfjogaaGreatDoor
set_option maxRecDepth 100000
set_option maxHeartbeats 8000000
open Go.ChangeShapes Go.WideShapes Go.ChangeAt Go.RowKit Go.Deep
open Sha (Fresh own_fresh)
set_option linter.unusedVariables false
set_option linter.unusedSimpArgs false
theorem Strs.touch {T : Nat → Prop} {w w' : World} {v : Value} {l : List ByteArray} (h : Strs w v l) (ht : Touch T w w') (hn : 0 < l.length → ∀ k, v.ownBlock = some k → ¬ T k) : Strs w' v l := by
 obtain ⟨a, cap, hv, hm, hc⟩ := h
 refine ⟨a, cap, hv, hm, ?_⟩
 by_cases hp : l.length = 0
 ·exact .inl hp
 rcases hc with h0 | ⟨b, off, ha, hlt, hc⟩
 ·exact .inl h0
 ·have hb := hn (by omega) b (by rw [hv, ha]; rfl)
  exact .inr ⟨b, off, ha, Nat.lt_of_lt_of_le hlt ht.size, fun i hi => (ht.cell (p := ⟨b, off + i, none⟩) hlt hb).trans (hc i hi)⟩
theorem Sess.touch {T : Nat → Prop} {w w' : World} {v : Value} {l : List Se} (h : Sess w v l) (ht : Touch T w w') (hn : 0 < l.length → ∀ k, v.ownBlock = some k → ¬ T k) : Sess w' v l := by
 obtain ⟨a, cap, hv, hn', hm, hc⟩ := h
 refine ⟨a, cap, hv, hn', hm, ?_⟩
 by_cases hp : l.length = 0
 ·exact .inl hp
 rcases hc with h0 | ⟨b, off, ha, hlt, hc⟩
 ·exact .inl h0
 ·have hb := hn (by omega) b (by rw [hv, ha]; rfl)
  exact .inr ⟨b, off, ha, Nat.lt_of_lt_of_le hlt ht.size, fun i hi => ⟨(ht.cell (p := ⟨b, off + i * 5, none⟩) hlt hb).trans (hc i hi).1, (ht.cell (p := ⟨b, off + i * 5 + 1, none⟩) hlt hb).trans (hc i hi).2.1, (ht.cell (p := ⟨b, off + i * 5 + 2, none⟩) hlt hb).trans (hc i hi).2.2.1, (ht.cell (p := ⟨b, off + i * 5 + 3, none⟩) hlt hb).trans (hc i hi).2.2.2.1, (ht.cell (p := ⟨b, off + i * 5 + 4, none⟩) hlt hb).trans (hc i hi).2.2.2.2⟩⟩
theorem Strs.lowB {w : World} {v : Value} {l : List ByteArray} (h : Strs w v l) (h0 : 0 < l.length) : ∀ k, v.ownBlock = some k → k < w.heap.size := by
 obtain ⟨a, cap, rfl, _, hc⟩ := h
 intro k hk
 rcases hc with h1 | ⟨b, off, rfl, hlt, _⟩
 ·omega
 ·cases hk; exact hlt
theorem Sess.lowB {w : World} {v : Value} {l : List Se} (h : Sess w v l) (h0 : 0 < l.length) : ∀ k, v.ownBlock = some k → k < w.heap.size := by
 obtain ⟨a, cap, rfl, _, _, hc⟩ := h
 intro k hk
 rcases hc with h1 | ⟨b, off, rfl, hlt, _⟩
 ·omega
 ·cases hk; exact hlt
theorem Strs.lenE {w w' : World} {v : Value} {l l' : List ByteArray} (h : Strs w v l) (h' : Strs w' v l') : l.length = l'.length := by
 obtain ⟨a, cap, e, _⟩ := h
 obtain ⟨a', cap', e', _⟩ := h'
 rw [e] at e'
 simp only [Value.slice.injEq] at e'
 exact e'.2.1
theorem Sess.lenE {w w' : World} {v : Value} {l l' : List Se} (h : Sess w v l) (h' : Sess w' v l') : l.length = l'.length := by
 obtain ⟨a, cap, e, _⟩ := h
 obtain ⟨a', cap', e', _⟩ := h'
 rw [e] at e'
 simp only [Value.slice.injEq] at e'
 exact e'.2.1
theorem Strs.fresh {T : Nat → Prop} {w w1 w2 : World} {v0 v : Value} {l0 l : List ByteArray} {H : Nat} (h0 : Strs w v0 l0) (h : Strs w1 v l) (hf : Fresh H v0 v) (ht : Touch T w1 w2) (hT : ∀ k, T k → w.heap.size ≤ k ∧ k < H) : Strs w2 v l := by
 refine h.touch ht (fun hp k hk hTk => ?_)
 have := hT k hTk
 rcases hf with rfl | hf
 ·have := h0.lowB (by rw [h0.lenE h]; exact hp) k hk; omega
 ·have := hf k hk; omega
theorem Sess.fresh {T : Nat → Prop} {w w1 w2 : World} {v0 v : Value} {l0 l : List Se} {H : Nat} (h0 : Sess w v0 l0) (h : Sess w1 v l) (hf : Fresh H v0 v) (ht : Touch T w1 w2) (hT : ∀ k, T k → w.heap.size ≤ k ∧ k < H) : Sess w2 v l := by
 refine h.touch ht (fun hp k hk hTk => ?_)
 have := hT k hTk
 rcases hf with rfl | hf
 ·have := h0.lowB (by rw [h0.lenE h]; exact hp) k hk; omega
 ·have := hf k hk; omega
theorem Sha.Fresh.down {H H' : Nat} {v0 v : Value} (h : Fresh H v0 v) (hH : H' ≤ H) : Fresh H' v0 v := h.imp id (fun h k hk => Nat.le_trans hH (h k hk))
end Go.Proofs.YtlbcdngidfjogaaGreatDoor
