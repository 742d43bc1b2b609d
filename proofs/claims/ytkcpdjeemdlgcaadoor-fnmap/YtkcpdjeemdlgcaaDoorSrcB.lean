/- The source of choices of the laws: bytes, and BytesOf. -/
import Derived.Test.YtkcpdjeemdlgcaaDoorSrc
namespace Go.Proofs.YtkcpdjeemdlgcaaDoor
open Go.ChangeShapes Go.WideShapes Go.ChangeAt Go.RowKit
set_option linter.unusedVariables false

theorem owns_made' {base e : Nat} (w : World) (b : Nat) (hb : b = w.heap.size) (hB : base ≤ w.heap.size) : (w.alloc (.cells #[] e)).ownsRow base e 1 (.slice (some ⟨b, 0, none⟩) 0 0) 0 [] := by
  subst hb
  exact World.ownsRow_made w #[] 0 hB (by unfold maxLen; omega) rfl
theorem Src.lt {w : World} {b : Nat} {a : Option Addr} {cap : Nat} {l : List Int} {M : Int} (h : Src w b a cap l M) : b < w.heap.size := by
  obtain ⟨_, _, _, _, _, _, _, _, _, _, h, _⟩ := h; exact h
theorem Src.len {w : World} {b : Nat} {a : Option Addr} {cap : Nat} {l : List Int} {M : Int} (h : Src w b a cap l M) : l.length ≤ 2097152 := by
  obtain ⟨_, _, _, _, _, _, _, _, _, _, _, _, _, h⟩ := h; exact h
theorem Src.alloc {w : World} {b : Nat} {a : Option Addr} {cap : Nat} {l : List Int} {M : Int} (h : Src w b a cap l M) (o : Obj) : Src (w.alloc o) b a cap l M := h.grown (World.grownBy_alloc w o none) (fun k e => by cases e)
/-- What a slice of the call's own holds is read as bytes. -/
theorem bytes_of_own {w : World} {base g n c : Nat} {ns : List Int} (h : w.ownsRow base 5 1 (.slice (some ⟨g, 0, none⟩) n c) n (ns.map (Value.int .u8))) (hr : ∀ i, 0 ≤ ns.getD i 0 ∧ ns.getD i 0 ≤ 255) (hn : n ≤ maxLen) : Bytes w (.slice (some ⟨g, 0, none⟩) ns.length c) ns := by
  have hl : ns.length = n := by simpa using h.1
  subst hl
  refine ⟨_, _, rfl, hn, .inr ⟨g, 0, rfl, (h.lt g rfl).2, fun i hi => ?_⟩, hr⟩
  rw [Nat.zero_add, h.cellAt i (by omega)]
  simp [List.getD, hi]
theorem range_snoc {ns : List Int} {x : Int} (h : ∀ i, 0 ≤ ns.getD i 0 ∧ ns.getD i 0 ≤ 255) (h0 : 0 ≤ x) (h1 : x ≤ 255) : ∀ i, 0 ≤ (ns ++ [x]).getD i 0 ∧ (ns ++ [x]).getD i 0 ≤ 255 := by
  intro i
  by_cases hi : i < ns.length
  · rw [List.getD_eq_getElem?_getD, List.getElem?_append_left hi, ← List.getD_eq_getElem?_getD]; exact h i
  · by_cases hi2 : i = ns.length
    · subst hi2; rw [List.getD_eq_getElem?_getD, List.getElem?_append_right (by omega)]; simp; omega
    · rw [List.getD_eq_getElem?_getD, List.getElem?_eq_none (by simp; omega)]; simp
theorem own_onlyAt {b base e n : Nat} {v : Value} {xs : List Value} {w w' : World} (h : w.ownsRow base e 1 v n xs) (hO : OnlyAt b w w') (hb : b < base) : w'.ownsRow base e 1 v n xs := by
  obtain ⟨hl, ⟨rfl, rfl⟩ | ⟨g, cap, cur, rfl, hbg, hg, hn, hc, hz, ht⟩⟩ := h
  · exact ⟨hl, .inl ⟨rfl, rfl⟩⟩
  · have hlt : g < w.heap.size := (World.ownsRow.lt ⟨hl, .inr ⟨g, cap, cur, rfl, hbg, hg, hn, hc, hz, ht⟩⟩ g rfl).2
    exact ⟨hl, .inr ⟨g, cap, cur, rfl, hbg, (hO.2.block g hlt (fun e => by cases e; omega)).trans hg, hn, hc, hz, ht⟩⟩

set_option maxRecDepth 100000 in
set_option maxHeartbeats 1000000 in
theorem l00Source_any (a : Option Addr) (cap : Nat) (l : List Int) (w : World) (h : Bytes w (.slice a l.length cap) l) (hl : l.length ≤ 2097152) :
    Calls Tryd.prog 24 #[.slice a l.length cap] w fun e w' => e = .returned (.pointer (some ⟨w.heap.size, 0, none⟩)) ∧ Src w' w.heap.size a cap l 0 ∧ Below w.heap.size w w' := by
  obtain ⟨a', cap', hv, hm, hc, hr⟩ := h
  simp only [Value.slice.injEq] at hv
  obtain ⟨rfl, _, rfl⟩ := hv
  have HC := hide hc
  have HR := hide hr
  clear hc hr hm
  go_enter Tryd.func24, Tryd.ntmps24
  go_wp2_with fail
  go_ret
  have hb : Below w.heap.size w (w.alloc (Obj.cells #[Value.slice a l.length cap, Value.int IntKind.i64 0, Value.int IntKind.i64 ((l.length : Int) % 1000)] 90)) := (Below.refl _ _).alloc (Nat.le_refl _) _
  refine ⟨rfl, ⟨0, (l.length : Int) % 1000, by omega, by omega, by omega, by omega, ?_, ?_, ?_, fun j => by simp, by simp, ?_, unhide HR, hl⟩, hb⟩
  · rw [World.cell?_alloc_at _ _ _ _ rfl]; rfl
  · rw [World.cell?_alloc_at _ _ _ _ rfl]; rfl
  · rw [World.cell?_alloc_at _ _ _ _ rfl]; rfl
  · rcases unhide HC with h0 | ⟨c, off, ha, hlt, hcell⟩
    · exact .inl h0
    · exact .inr ⟨c, off, ha, hlt, fun i hi => (hb.cell (p := ⟨c, off + i, none⟩) hlt).trans (hcell i hi)⟩

end Go.Proofs.YtkcpdjeemdlgcaaDoor
