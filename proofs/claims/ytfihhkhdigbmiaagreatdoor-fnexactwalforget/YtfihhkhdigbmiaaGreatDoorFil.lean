/- Files of a disk: slices of structs of three cells; what is told of one that can be read. -/
import Derived.Test.YtfihhkhdigbmiaaGreatDoorBlk
import Derived.Test.YtfihhkhdigbmiaaGreatDoorName
import Derived.Test.YtfihhkhdigbmiaaGreatDoorIn
namespace Go.Proofs.YtfihhkhdigbmiaaGreatDoor
open Go.ChangeShapes Go.WideShapes Go.ChangeAt Go.RowKit
set_option linter.unusedVariables false

/-- A file: name, data, how many bytes are sure. -/
structure Fl where
  n : ByteArray
  d : ByteArray
  s : Int
deriving Inhabited
def flC (f : Fl) : List Value := [.string f.n, .string f.d, .int .i64 f.s]
def flsC (l : List Fl) : List Value := l.flatMap flC
/-- The value is a slice that holds these files. -/
def Fls (w : World) (v : Value) (l : List Fl) : Prop :=
  ∃ a cap, v = .slice a l.length cap ∧ l.length ≤ cap ∧ cap ≤ maxLen ∧ (l.length = 0 ∨ ∃ b off, a = some ⟨b, off, none⟩ ∧ b < w.heap.size ∧ ∀ i, i < l.length → w.cell? ⟨b, off + i * 3, none⟩ = some (.string (l.getD i default).n) ∧ w.cell? ⟨b, off + i * 3 + 1, none⟩ = some (.string (l.getD i default).d) ∧ w.cell? ⟨b, off + i * 3 + 2, none⟩ = some (.int .i64 (l.getD i default).s))
theorem Fls.below {w w' : World} {v : Value} {l : List Fl} (h : Fls w v l) (hb : Below w.heap.size w w') : Fls w' v l := by
  obtain ⟨a, cap, hv, hn, hm, hc⟩ := h
  refine ⟨a, cap, hv, hn, hm, ?_⟩
  rcases hc with h0 | ⟨b, off, ha, hlt, hc⟩
  · exact .inl h0
  · exact .inr ⟨b, off, ha, Nat.lt_of_lt_of_le hlt hb.size, fun i hi => ⟨(hb.cell (p := ⟨b, off + i * 3, none⟩) hlt).trans (hc i hi).1, (hb.cell (p := ⟨b, off + i * 3 + 1, none⟩) hlt).trans (hc i hi).2.1, (hb.cell (p := ⟨b, off + i * 3 + 2, none⟩) hlt).trans (hc i hi).2.2⟩⟩
/-- The bytes of the first k files together. -/
def usedTo (l : List Fl) : Nat → Int
  | 0 => 0
  | k + 1 => usedTo l k + ((l.getD k default).d.size : Int)

set_option maxRecDepth 100000 in
set_option maxHeartbeats 1000000 in
theorem fileBytes_any (v : Value) (l : List Fl) (w : World) (h : Fls w v l) (hs : ∀ k, k ≤ l.length → 0 ≤ usedTo l k ∧ usedTo l k ≤ 1048576) (hl : l.length ≤ 1048576) :
    Calls Tryz.prog 40 #[v] w fun e w' => e = .returned (.int .i64 (usedTo l l.length)) ∧ Below w.heap.size w w' := by
  obtain ⟨a, cap, rfl, hn, hm, hc⟩ := h
  have HC := hide hc
  have HS := hide hs
  clear hc hs
  go_enter Tryz.func40, Tryz.ntmps40
  go_wp2_with fail
  go_loopw [3, 8] (fun n i wr => ∃ k : Nat, k ≤ l.length ∧ i = .int .i64 k ∧ n = .int .i64 (usedTo l k) ∧ Below w.heap.size w wr) (fun _ i _ => l.length - (intOf i).toNat)
  case atStart => exact ⟨0, Nat.zero_le _, rfl, rfl, Below.refl _ _⟩
  case round =>
    obtain ⟨k, hk, rfl, rfl, hb⟩ := hrel
    by_cases hlt : k < l.length
    · obtain ⟨b, off, rfl, hbl, hsrc⟩ : ∃ b off, a = some ⟨b, off, none⟩ ∧ b < w.heap.size ∧ ∀ i, i < l.length → w.cell? ⟨b, off + i * 3, none⟩ = some (.string (l.getD i default).n) ∧ w.cell? ⟨b, off + i * 3 + 1, none⟩ = some (.string (l.getD i default).d) ∧ w.cell? ⟨b, off + i * 3 + 2, none⟩ = some (.int .i64 (l.getD i default).s) := by
        rcases unhide HC with h0 | h1
        · omega
        · exact h1
      obtain ⟨s0, s1, s2⟩ := hsrc k hlt
      have c0 := (hb.cell (p := ⟨b, off + k * 3, none⟩) hbl).trans s0
      have c1 := (hb.cell (p := ⟨b, off + k * 3 + 1, none⟩) hbl).trans s1
      have c2 := (hb.cell (p := ⟨b, off + k * 3 + 2, none⟩) hbl).trans s2
      have hk0 : (0 : Int) ≤ (k : Int) := by omega
      have hk1 : (k : Int) < (l.length : Int) := by omega
      have hu0 := unhide HS k hk
      have hu1 := unhide HS (k + 1) (by omega)
      have HU : Hid (usedTo l (k + 1) = usedTo l k + ((l.getD k default).d.size : Int)) := rfl
      rw [unhide HU] at hu1
      have hbs := hb.size
      have HB := hide hb
      clear hsrc s0 s1 s2 hb
      generalize usedTo l k = u at *
      generalize l.getD k default = f at *
      obtain ⟨fn, fd, fs⟩ := f
      dsimp only at c0 c1 c2 hu1 HU
      go_wp2_with fail
      refine ⟨⟨k + 1, by omega, by go_num, by rw [unhide HU], (unhide HB).alloc (by omega) _⟩, ?_⟩
      simp [intOf]; omega
    · obtain rfl : k = l.length := by omega
      have R := hide hb
      clear hb
      go_wp2_with fail
      go_ret
      exact ⟨rfl, unhide R⟩

set_option maxRecDepth 100000 in
set_option maxHeartbeats 1000000 in
theorem l03Used_any (room : Int) (v : Value) (l : List Fl) (w : World) (h : Fls w v l) (hs : ∀ k, k ≤ l.length → 0 ≤ usedTo l k ∧ usedTo l k ≤ 1048576) (hl : l.length ≤ 1048576) :
    Calls Tryz.prog 33 #[.agg #[.int .i64 room, v]] w fun e w' => e = .returned (.int .i64 (usedTo l l.length)) ∧ Below w.heap.size w w' := by
  obtain ⟨a, cap, rfl, hn, hm, hc⟩ := h
  have HC := hide hc
  have HS := hide hs
  clear hc hs
  have B0 := hide ((Below.refl w.heap.size w).alloc (Nat.le_refl _) (.cells #[.int .i64 room, .slice a l.length cap] 28))
  have X0 := hide (Blk.new w #[.int .i64 room, .slice a l.length cap] 28 w.heap.size rfl)
  go_enter Tryz.func33, Tryz.ntmps33
  go_wp2_with fail
  generalize w.alloc (.cells #[.int .i64 room, .slice a l.length cap] 28) = w0 at *
  have c1 := (unhide X0).cell 1 rfl
  go_loop [3, 4] (fun n i => ∃ k : Nat, k ≤ l.length ∧ i = .int .i64 k ∧ n = .int .i64 (usedTo l k)) (fun _ i => l.length - (intOf i).toNat)
  case atStart => exact ⟨0, Nat.zero_le _, rfl, rfl⟩
  case round =>
    obtain ⟨k, hk, rfl, rfl⟩ := hrel
    by_cases hlt : k < l.length
    · obtain ⟨b, off, rfl, hbl, hsrc⟩ : ∃ b off, a = some ⟨b, off, none⟩ ∧ b < w.heap.size ∧ ∀ i, i < l.length → w.cell? ⟨b, off + i * 3, none⟩ = some (.string (l.getD i default).n) ∧ w.cell? ⟨b, off + i * 3 + 1, none⟩ = some (.string (l.getD i default).d) ∧ w.cell? ⟨b, off + i * 3 + 2, none⟩ = some (.int .i64 (l.getD i default).s) := by
        rcases unhide HC with h0 | h1
        · omega
        · exact h1
      obtain ⟨s0, s1, s2⟩ := hsrc k hlt
      have c2 := ((unhide B0).cell (p := ⟨b, off + k * 3 + 1, none⟩) hbl).trans s1
      have hk0 : (0 : Int) ≤ (k : Int) := by omega
      have hk1 : (k : Int) < (l.length : Int) := by omega
      have hu0 := unhide HS k hk
      have hu1 := unhide HS (k + 1) (by omega)
      have HU : Hid (usedTo l (k + 1) = usedTo l k + ((l.getD k default).d.size : Int)) := rfl
      rw [unhide HU] at hu1
      clear hsrc s0 s1 s2
      generalize usedTo l k = u at *
      generalize l.getD k default = f at *
      obtain ⟨fn, fd, fs⟩ := f
      dsimp only at c2 hu1 HU
      go_wp2_with fail
      go_round
      case rel => exact ⟨k + 1, by omega, by go_num, by rw [unhide HU]⟩
      case measure => simp [intOf]; omega
    · obtain rfl : k = l.length := by omega
      go_wp2_with fail
      go_ret
      exact ⟨rfl, unhide B0⟩
end Go.Proofs.YtfihhkhdigbmiaaGreatDoor
