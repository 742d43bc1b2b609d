/- laws.markByteS and laws.heldByteS: marks laid into a slice of the call's own, and found there. -/
import Derived.Test.YtjkmnnjagcabdaiWr
namespace Go.Proofs.Ytjkmnnjagcabdai
open Go.ChangeShapes Go.WideShapes Go.ChangeAt Go.RowKit
set_option linter.unusedVariables false

def markB (l : List Int) (k j : Nat) : Int := if j < k then ((1 + j : Nat) : Int) % 256 else l.getD j 0
def marks (n : Nat) : List Int := (List.range n).map fun j => ((1 + j : Nat) : Int) % 256
theorem marks_len (n : Nat) : (marks n).length = n := by simp [marks]
theorem marks_get (n j : Nat) (h : j < n) : (marks n).getD j 0 = ((1 + j : Nat) : Int) % 256 := by simp [marks, List.getD_eq_getElem?_getD, h]
theorem marks_range (n : Nat) : ∀ i, 0 ≤ (marks n).getD i 0 ∧ (marks n).getD i 0 ≤ 255 := fun i => by
  by_cases h : i < n
  · rw [marks_get n i h]; omega
  · rw [List.getD_eq_getElem?_getD, List.getElem?_eq_none (by rw [marks_len]; omega)]; simp
/-- A row whose first n cells are given, its block still there and as long as it was. -/
def Laid (w : World) (g cap : Nat) (f : Nat → Int) (n : Nat) : Prop := ∃ cur : Array Value, w.heap[g]? = some (.cells cur 5 (0, 0)) ∧ cur.size = cap ∧ n ≤ cap ∧ ∀ j, j < n → cur[j]? = some (.int .u8 (f j))
theorem Laid.set {w : World} {g cap n : Nat} {f f' : Nat → Int} (h : Laid w g cap f n) (k : Nat) (x : Int) (hk : k < n) (hf : f' k = x) (ho : ∀ j, j ≠ k → f' j = f j) : Laid (w.setCell ⟨g, k, none⟩ (.int .u8 x)) g cap f' n := by
  obtain ⟨cur, hg, hs, hn, hc⟩ := h
  refine ⟨cur.setIfInBounds k (.int .u8 x), ?_, by simpa using hs, hn, fun j hj => ?_⟩
  · have hlt := (Array.getElem?_eq_some_iff.1 hg).1
    simp only [World.setCell, Array.getElem?_modify]
    simp [hg]
  · by_cases e : j = k
    · subst e; rw [Array.getElem?_setIfInBounds_self_of_lt (by omega), hf]
    · rw [Array.getElem?_setIfInBounds_ne (by omega), hc j hj, ho j e]
theorem Laid.of {B : Nat} {w : World} {g cap n : Nat} {l : List Int} (h : OwnB B w (.slice (some ⟨g, 0, none⟩) n cap) l) : Laid w g cap (markB l 0) l.length := by
  obtain ⟨⟨hl, hc⟩, hr⟩ := h
  rcases hc with ⟨hv, _⟩ | ⟨g', cap', cur, hv, hb, hg, hn, hm, hs, ht⟩
  · cases hv
  · cases hv
    refine ⟨cur, hg, by simpa using hs, hn, fun j hj => ?_⟩
    have e := congrArg (fun z : List Value => z[j]?) ht
    simp only [Nat.mul_one, List.getElem?_take, if_pos hj, Array.getElem?_toList, List.getElem?_map] at e
    rw [e, markB, if_neg (by omega), List.getElem?_eq_getElem hj, List.getD_eq_getElem?_getD, List.getElem?_eq_getElem hj]; rfl
theorem Laid.own {B : Nat} {w : World} {g cap : Nat} {l : List Int} (h : Laid w g cap (markB l l.length) l.length) (hB : B ≤ g) (hm : cap ≤ maxLen) : OwnB B w (.slice (some ⟨g, 0, none⟩) l.length cap) (marks l.length) := by
  obtain ⟨cur, hg, hs, hn, hc⟩ := h
  refine ⟨⟨by simp [marks_len], .inr ⟨g, cap, cur, by rw [marks_len], hB, hg, by rw [marks_len]; exact hn, hm, by simpa using hs, ?_⟩⟩, marks_range _⟩
  apply List.ext_getElem?
  intro j
  rw [Nat.mul_one, marks_len, List.getElem?_take, Array.getElem?_toList, List.getElem?_map]
  by_cases hj : j < l.length
  · rw [if_pos hj, hc j hj, markB, if_pos hj]
    simp [marks, hj]
  · rw [if_neg hj, List.getElem?_eq_none (by rw [marks_len]; omega)]; rfl
theorem Laid.cell {w : World} {g cap n : Nat} {f : Nat → Int} (h : Laid w g cap f n) (j : Nat) (hj : j < n) : w.cell? ⟨g, j, none⟩ = some (.int .u8 (f j)) ∧ w.frozen? ⟨g, j, none⟩ = false := by
  obtain ⟨cur, hg, hs, hn, hc⟩ := h
  refine ⟨?_, by simp [World.frozen?, hg]⟩
  rw [cell_of_row w g j cur 5 (0, 0) hg]
  exact hc j hj
theorem OwnB.cap {B : Nat} {w : World} {g cap n : Nat} {l : List Int} (h : OwnB B w (.slice (some ⟨g, 0, none⟩) n cap) l) : cap ≤ maxLen ∧ B ≤ g ∧ n = l.length := by
  rcases h.1.2 with ⟨hv, _⟩ | ⟨g', cap', cur, hv, hb, _, _, hm, _⟩
  · cases hv
  · cases hv; exact ⟨hm, hb, rfl⟩

set_option maxRecDepth 100000 in
set_option maxHeartbeats 1000000 in
theorem markByteS_any (B : Nat) (v : Value) (l : List Int) (w : World) (h : OwnB B w v l) (hl : l.length ≤ 1048576) :
    Calls Try.prog 16 #[v, .int .i64 1] w fun e w' => e = .returned (.int .i64 (1 + (l.length : Int))) ∧ OwnB B w' v (marks l.length) ∧ Touch (fun k => v.ownBlock = some k) w w' := by
  rcases h.shape with ⟨rfl, rfl⟩ | ⟨g, cap, rfl, hb, hlt⟩
  · have H := hide h
    clear h
    go_enter Try.func16, Try.ntmps16
    go_wp2_with fail
    go_loopw [1, 5] (fun k i wr => k = .int .i64 1 ∧ i = .int .i64 0 ∧ wr = w) (fun _ _ _ => 0)
    case atStart => exact ⟨rfl, rfl, rfl⟩
    case round =>
      obtain ⟨rfl, rfl, rfl⟩ := hrel
      go_wp2_with fail
      go_ret
      exact ⟨rfl, unhide H, Touch.refl _ _⟩
  · have HL := hide (Laid.of h)
    have HC := hide h.cap
    clear h
    go_enter Try.func16, Try.ntmps16
    go_wp2_with fail
    go_loopw [1, 5] (fun k i wr => ∃ j : Nat, j ≤ l.length ∧ k = .int .i64 (1 + (j : Int)) ∧ i = .int .i64 j ∧ Laid wr g cap (markB l j) l.length ∧ Touch (fun k => k = g) w wr) (fun _ i _ => l.length - (intOf i).toNat)
    case atStart => exact ⟨0, Nat.zero_le _, rfl, rfl, unhide HL, Touch.refl _ _⟩
    case round =>
      obtain ⟨j, hj, rfl, rfl, hL, hT⟩ := hrel
      by_cases hlt2 : j < l.length
      · obtain ⟨c1, f1⟩ := hL.cell j hlt2
        have R := hide (And.intro (hL.set (f' := markB l (j + 1)) j ((1 + (j : Int)) % 256) hlt2 (by unfold markB; rw [if_pos (by omega)]; omega) (fun i hi => by
          unfold markB
          by_cases h1 : i < j
          · rw [if_pos h1, if_pos (by omega)]
          · rw [if_neg h1, if_neg (by omega)])) (hT.setCell ⟨g, j, none⟩ (.int .u8 ((1 + (j : Int)) % 256)) (fun _ => rfl)))
        have m1 : IntKind.u8.wrap (1 + (j : Int)) = (1 + (j : Int)) % 256 := by simp [IntKind.wrap, IntKind.bits, IntKind.signed]
        have p0 : (0 : Int) ≤ (j : Int) := by omega
        have p1 : (j : Int) < (l.length : Int) := by omega
        clear hL hT
        generalize (1 + (j : Int)) % 256 = x at *
        go_wp2_with fail
        refine ⟨⟨j + 1, by omega, by go_num, by go_num, (unhide R).1, (unhide R).2⟩, ?_⟩
        simp [intOf]; omega
      · obtain rfl : j = l.length := by omega
        have R := hide (And.intro hL hT)
        clear hL hT
        go_wp2_with fail
        go_ret
        refine ⟨rfl, (unhide R).1.own hb (unhide HC).1, ?_⟩
        exact (Touch.refl (fun k => (Value.slice (some ⟨g, 0, none⟩) l.length cap).ownBlock = some k) w).trans (unhide R).2 (fun k _ e => by subst e; rfl)

set_option maxRecDepth 100000 in
set_option maxHeartbeats 1000000 in
theorem heldByteS_any (B : Nat) (v : Value) (n : Nat) (w : World) (h : OwnB B w v (marks n)) (hn : n ≤ 1048576) :
    Calls Try.prog 17 #[v, .int .i64 1] w fun e w' => e = .returned (.int .i64 (1 + (n : Int))) ∧ w' = w := by
  rcases h.shape with ⟨rfl, h0⟩ | ⟨g, cap, rfl, hb, hlt⟩
  · have hn0 : n = 0 := by have := congrArg List.length h0; rw [marks_len] at this; simpa using this
    subst hn0
    clear h h0
    go_enter Try.func17, Try.ntmps17
    go_wp2_with fail
    go_loop [1, 5] (fun k i => k = .int .i64 1 ∧ i = .int .i64 0) (fun _ _ => 0)
    case atStart => exact ⟨rfl, rfl⟩
    case round =>
      obtain ⟨rfl, rfl⟩ := hrel
      go_wp2_with fail
      go_ret
      exact ⟨rfl, rfl⟩
  · have HC := hide (fun j hj => h.cell j hj)
    have hml := marks_len n
    clear h
    go_enter Try.func17, Try.ntmps17
    go_wp2_with fail
    go_loop [1, 5] (fun k i => ∃ j : Nat, j ≤ n ∧ k = .int .i64 (1 + (j : Int)) ∧ i = .int .i64 j) (fun _ i => n - (intOf i).toNat)
    case atStart => exact ⟨0, Nat.zero_le _, rfl, rfl⟩
    case round =>
      obtain ⟨j, hj, rfl, rfl⟩ := hrel
      by_cases hlt2 : j < n
      · have c1 := unhide HC j (by omega)
        rw [marks_get n j hlt2, show ((1 + j : Nat) : Int) = 1 + (j : Int) by omega] at c1
        have m1 : IntKind.u8.wrap (1 + (j : Int)) = (1 + (j : Int)) % 256 := by simp [IntKind.wrap, IntKind.bits, IntKind.signed]
        have p0 : (0 : Int) ≤ (j : Int) := by omega
        have p1 : (j : Int) < (n : Int) := by omega
        generalize (1 + (j : Int)) % 256 = x at *
        go_wp2_with fail
        go_round
        case rel => exact ⟨j + 1, by omega, by go_num, by go_num⟩
        case measure => simp [intOf]; omega
      · obtain rfl : j = n := by omega
        go_wp2_with fail
        go_ret
        exact ⟨rfl, rfl⟩
end Go.Proofs.Ytjkmnnjagcabdai
