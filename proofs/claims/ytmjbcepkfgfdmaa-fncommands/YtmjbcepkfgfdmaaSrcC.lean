/- The laws' source of choices: texts, commands. -/
import Derived.Test.YtmjbcepkfgfdmaaSrcB
import Derived.Test.YtmjbcepkfgfdmaaBlk
import Derived.Test.YtmjbcepkfgfdmaaCmd
import Derived.Deep.RegionHeld3
namespace Go.Proofs.Ytmjbcepkfgfdmaa
open Go.ChangeShapes Go.WideShapes Go.ChangeAt Go.RowKit
set_option linter.unusedVariables false

theorem OnlyAt.touch {b : Nat} {w w' : World} (h : OnlyAt b w w') : Touch (fun k => k = b) w w' :=
  ⟨h.2.os, h.2.tape, h.2.output, h.2.size, fun k hk hn => h.2.block k hk (fun e => hn (by simpa using e))⟩
theorem Blk.only {b B : Nat} {w w' : World} {vs : List Value} (h : Blk w B vs) (hO : OnlyAt b w w') (hb : B ≠ b) : Blk w' B vs := h.kept hO.touch hb

set_option maxRecDepth 100000 in
set_option maxHeartbeats 1000000 in
theorem pick_any (ss : List ByteArray) (c : Nat) (w : World) (b : Nat) (a : Option Addr) (cap : Nat) (l : List Int) (M : Int) (h : Src w b a cap l M) (hM : M ≤ 900000000) (hB : Blk w c (ss.map Value.string)) (hc : c ≠ b) (h1 : 1 ≤ ss.length) (h2 : ss.length ≤ 256) :
    Calls Try.prog 58 #[.pointer (some ⟨b, 0, none⟩), .slice (some ⟨c, 0, none⟩) ss.length ss.length] w fun e w' => ∃ i, i < ss.length ∧ e = .returned (.string (ss.getD i ByteArray.empty)) ∧ Src w' b a cap l (M + 3) ∧ OnlyAt b w w' := by
  have H := hide h
  have HB := hide hB
  have h3 : ((ss.length : Int) == 0) = false := by rw [beq_eq_false_iff_ne]; omega
  clear h hB
  go_enter Try.func58, Try.ntmps58
  go_wp2_with fail
  refine (srcNext_any ss.length w b a cap l M (unhide H) hM (by omega) (by omega)).mono ?_
  rintro e w1 ⟨x, rfl, hx0, hx1, hS, hO⟩
  obtain ⟨i, rfl⟩ : ∃ i : Nat, x = (i : Int) := ⟨x.toNat, by omega⟩
  have hil : i < ss.length := by omega
  have c1 := ((unhide HB).only hO hc).cell i (v := .string (ss.getD i ByteArray.empty)) (by
    rw [List.getElem?_map, List.getElem?_eq_getElem hil, List.getD_eq_getElem?_getD, List.getElem?_eq_getElem hil]; rfl)
  have R := hide (And.intro hS hO)
  clear hS hO H HB h3
  obtain ⟨s, hs⟩ : ∃ s, s = ss.getD i ByteArray.empty := ⟨_, rfl⟩
  rw [← hs] at c1
  have HSE := hide hs
  clear hs
  go_wp2_with fail
  go_ret
  exact ⟨i, hil, by rw [← unhide HSE]; rfl, (unhide R).1, (unhide R).2⟩

def keysL : List ByteArray := [⟨#[97]⟩, ⟨#[98]⟩, ⟨#[99]⟩, ⟨#[97, 108, 112, 104, 97]⟩, ⟨#[98, 101, 116, 97]⟩]
def dataL : List ByteArray := [⟨#[]⟩, ⟨#[49]⟩, ⟨#[50]⟩, ⟨#[120]⟩, ⟨#[108, 111, 110, 103, 101, 114, 32, 118, 97, 108, 117, 101]⟩]
theorem keys_size : ∀ i, i < 5 → 1 ≤ (keysL.getD i ByteArray.empty).size ∧ (keysL.getD i ByteArray.empty).size ≤ 24
  | 0, _ => by decide
  | 1, _ => by decide
  | 2, _ => by decide
  | 3, _ => by decide
  | 4, _ => by decide
  | n + 5, h => by omega
theorem data_size : ∀ i, i < 5 → (dataL.getD i ByteArray.empty).size ≤ 60
  | 0, _ => by decide
  | 1, _ => by decide
  | 2, _ => by decide
  | 3, _ => by decide
  | 4, _ => by decide
  | n + 5, h => by omega
set_option maxRecDepth 100000 in
set_option maxHeartbeats 1000000 in
theorem key_any (w : World) (b : Nat) (a : Option Addr) (cap : Nat) (l : List Int) (M : Int) (h : Src w b a cap l M) (hM : M ≤ 900000000) :
    Calls Try.prog 51 #[.pointer (some ⟨b, 0, none⟩)] w fun e w' => ∃ s : ByteArray, e = .returned (.string s) ∧ 1 ≤ s.size ∧ s.size ≤ 24 ∧ Src w' b a cap l (M + 3) ∧ Touch (fun k => k = b) w w' := by
  have hbl := h.lt
  have H := hide (h.alloc (.cells #[.string ⟨#[97]⟩, .string ⟨#[98]⟩, .string ⟨#[99]⟩, .string ⟨#[97, 108, 112, 104, 97]⟩, .string ⟨#[98, 101, 116, 97]⟩] 9))
  have HB := hide (Blk.new w #[.string ⟨#[97]⟩, .string ⟨#[98]⟩, .string ⟨#[99]⟩, .string ⟨#[97, 108, 112, 104, 97]⟩, .string ⟨#[98, 101, 116, 97]⟩] 9 w.heap.size rfl)
  have HT := hide ((Touch.refl (fun k => k = b) w).alloc (.cells #[.string ⟨#[97]⟩, .string ⟨#[98]⟩, .string ⟨#[99]⟩, .string ⟨#[97, 108, 112, 104, 97]⟩, .string ⟨#[98, 101, 116, 97]⟩] 9))
  clear h
  go_enter Try.func51, Try.ntmps51
  go_wp2_with fail
  generalize w.alloc (.cells #[.string ⟨#[97]⟩, .string ⟨#[98]⟩, .string ⟨#[99]⟩, .string ⟨#[97, 108, 112, 104, 97]⟩, .string ⟨#[98, 101, 116, 97]⟩] 9) = w0 at *
  refine (pick_any keysL w.heap.size w0 b a cap l M (unhide H) hM (unhide HB) (by omega) (by decide) (by decide)).mono ?_
  rintro e w1 ⟨i, hi, rfl, hS, hO⟩
  have R := hide (And.intro hS ((unhide HT).trans hO.touch (fun _ _ h => h)))
  have hq := hide (show 1 ≤ (keysL.getD i ByteArray.empty).size ∧ (keysL.getD i ByteArray.empty).size ≤ 24 from ⟨(keys_size i hi).1, (keys_size i hi).2⟩)
  clear hS hO HT HB H
  generalize keysL.getD i ByteArray.empty = s at *
  go_wp2_with fail
  go_ret
  exact ⟨s, rfl, (unhide hq).1, (unhide hq).2, (unhide R).1, (unhide R).2⟩
set_option maxRecDepth 100000 in
set_option maxHeartbeats 1000000 in
theorem datum_any (w : World) (b : Nat) (a : Option Addr) (cap : Nat) (l : List Int) (M : Int) (h : Src w b a cap l M) (hM : M ≤ 900000000) :
    Calls Try.prog 52 #[.pointer (some ⟨b, 0, none⟩)] w fun e w' => ∃ s : ByteArray, e = .returned (.string s) ∧ s.size ≤ 60 ∧ Src w' b a cap l (M + 3) ∧ Touch (fun k => k = b) w w' := by
  have hbl := h.lt
  have H := hide (h.alloc (.cells #[.string ⟨#[]⟩, .string ⟨#[49]⟩, .string ⟨#[50]⟩, .string ⟨#[120]⟩, .string ⟨#[108, 111, 110, 103, 101, 114, 32, 118, 97, 108, 117, 101]⟩] 9))
  have HB := hide (Blk.new w #[.string ⟨#[]⟩, .string ⟨#[49]⟩, .string ⟨#[50]⟩, .string ⟨#[120]⟩, .string ⟨#[108, 111, 110, 103, 101, 114, 32, 118, 97, 108, 117, 101]⟩] 9 w.heap.size rfl)
  have HT := hide ((Touch.refl (fun k => k = b) w).alloc (.cells #[.string ⟨#[]⟩, .string ⟨#[49]⟩, .string ⟨#[50]⟩, .string ⟨#[120]⟩, .string ⟨#[108, 111, 110, 103, 101, 114, 32, 118, 97, 108, 117, 101]⟩] 9))
  clear h
  go_enter Try.func52, Try.ntmps52
  go_wp2_with fail
  generalize w.alloc (.cells #[.string ⟨#[]⟩, .string ⟨#[49]⟩, .string ⟨#[50]⟩, .string ⟨#[120]⟩, .string ⟨#[108, 111, 110, 103, 101, 114, 32, 118, 97, 108, 117, 101]⟩] 9) = w0 at *
  refine (pick_any dataL w.heap.size w0 b a cap l M (unhide H) hM (unhide HB) (by omega) (by decide) (by decide)).mono ?_
  rintro e w1 ⟨i, hi, rfl, hS, hO⟩
  have R := hide (And.intro hS ((unhide HT).trans hO.touch (fun _ _ h => h)))
  have hq := hide (show (dataL.getD i ByteArray.empty).size ≤ 60 from data_size i hi)
  clear hS hO HT HB H
  generalize dataL.getD i ByteArray.empty = s at *
  go_wp2_with fail
  go_ret
  exact ⟨s, rfl, unhide hq, (unhide R).1, (unhide R).2⟩
set_option maxRecDepth 100000 in
set_option maxHeartbeats 1000000 in
theorem chance_any (n : Int) (w : World) (b : Nat) (a : Option Addr) (cap : Nat) (l : List Int) (M : Int) (h : Src w b a cap l M) (hM : M ≤ 900000000) (hn : 1 ≤ n) (hn2 : n < 16777216) :
    Calls Try.prog 53 #[.pointer (some ⟨b, 0, none⟩), .int .i64 n] w fun e w' => ∃ q : Bool, e = .returned (.bool q) ∧ Src w' b a cap l (M + 3) ∧ OnlyAt b w w' := by
  have H := hide h
  clear h
  go_enter Try.func53, Try.ntmps53
  go_wp2_with fail
  refine (srcNext_any n w b a cap l M (unhide H) hM hn hn2).mono ?_
  rintro e w1 ⟨x, rfl, hx0, hx1, hS, hO⟩
  have R := hide (And.intro hS hO)
  clear hS hO H
  go_wp2_with fail
  go_ret
  exact ⟨_, rfl, (unhide R).1, (unhide R).2⟩

end Go.Proofs.Ytmjbcepkfgfdmaa
