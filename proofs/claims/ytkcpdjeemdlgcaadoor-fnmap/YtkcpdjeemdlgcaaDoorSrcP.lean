/- A source of choices: pick and chance (out of SrcC, for cuts without commands). -/
import Derived.Test.YtkcpdjeemdlgcaaDoorSrcB
import Derived.Test.YtkcpdjeemdlgcaaDoorBlk
import Derived.Deep.RegionHeld3
namespace Go.Proofs.YtkcpdjeemdlgcaaDoor
open Go.ChangeShapes Go.WideShapes Go.ChangeAt Go.RowKit
set_option linter.unusedVariables false
set_option linter.unusedSimpArgs false

theorem OnlyAt.touch {b : Nat} {w w' : World} (h : OnlyAt b w w') : Touch (fun k => k = b) w w' :=
  ⟨h.2.os, h.2.tape, h.2.output, h.2.size, fun k hk hn => h.2.block k hk (fun e => hn (by simpa using e))⟩
theorem Blk.only {b B : Nat} {w w' : World} {vs : List Value} (h : Blk w B vs) (hO : OnlyAt b w w') (hb : B ≠ b) : Blk w' B vs := h.kept hO.touch hb

set_option maxRecDepth 100000 in
set_option maxHeartbeats 1000000 in
theorem pick_any (ss : List ByteArray) (c : Nat) (w : World) (b : Nat) (a : Option Addr) (cap : Nat) (l : List Int) (M : Int) (h : Src w b a cap l M) (hM : M ≤ 900000000) (hB : Blk w c (ss.map Value.string)) (hc : c ≠ b) (h1 : 1 ≤ ss.length) (h2 : ss.length ≤ 256) :
    Calls Tryd.prog 63 #[.pointer (some ⟨b, 0, none⟩), .slice (some ⟨c, 0, none⟩) ss.length ss.length] w fun e w' => ∃ i, i < ss.length ∧ e = .returned (.string (ss.getD i ByteArray.empty)) ∧ Src w' b a cap l (M + 3) ∧ OnlyAt b w w' := by
  have H := hide h
  have HB := hide hB
  have h3 : ((ss.length : Int) == 0) = false := by rw [beq_eq_false_iff_ne]; omega
  clear h hB
  go_enter Tryd.func63, Tryd.ntmps63
  go_wp2_with fail
  refine (srcNext_any ss.length w b a cap l M (unhide H) hM (by omega) (by omega)).mono ?_
  rintro e w1 ⟨x, rfl, hx0, hx1, hS, hO⟩
  obtain ⟨i, rfl⟩ : ∃ i : Nat, x = (i : Int) := ⟨x.toNat, by omega⟩
  have hil : i < ss.length := by omega
  have c1 := ((unhide HB).only hO hc).cell i (v := .string (ss.getD i ByteArray.empty)) (by
    rw [List.getElem?_map, List.getElem?_eq_getElem hil, List.getD_eq_getElem?_getD, List.getElem?_eq_getElem hil]; rfl)
  have R := hide (And.intro hS hO)
  clear hS hO H HB h3
  obtain ⟨s, hs⟩ : ∃ s, s = ss.getD i ByteArray.empty := ⟨_, rfl⟩
  rw [← hs] at c1
  have HSE := hide hs
  clear hs
  go_wp2_with fail
  go_ret
  exact ⟨i, hil, by rw [← unhide HSE]; rfl, (unhide R).1, (unhide R).2⟩

set_option maxRecDepth 100000 in
set_option maxHeartbeats 1000000 in
theorem chance_any (n : Int) (w : World) (b : Nat) (a : Option Addr) (cap : Nat) (l : List Int) (M : Int) (h : Src w b a cap l M) (hM : M ≤ 900000000) (hn : 1 ≤ n) (hn2 : n < 16777216) :
    Calls Tryd.prog 86 #[.pointer (some ⟨b, 0, none⟩), .int .i64 n] w fun e w' => ∃ q : Bool, e = .returned (.bool q) ∧ Src w' b a cap l (M + 3) ∧ OnlyAt b w w' := by
  have H := hide h
  clear h
  go_enter Tryd.func86, Tryd.ntmps86
  go_wp2_with fail
  refine (srcNext_any n w b a cap l M (unhide H) hM hn hn2).mono ?_
  rintro e w1 ⟨x, rfl, hx0, hx1, hS, hO⟩
  have R := hide (And.intro hS hO)
  clear hS hO H
  go_wp2_with fail
  go_ret
  exact ⟨_, rfl, (unhide R).1, (unhide R).2⟩

end Go.Proofs.YtkcpdjeemdlgcaaDoor
