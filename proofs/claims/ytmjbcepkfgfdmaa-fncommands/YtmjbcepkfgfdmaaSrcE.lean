/- The laws' source of choices: an entry; a command and an entry of a code. -/
import Derived.Test.YtmjbcepkfgfdmaaSrcC
import Derived.Test.YtmjbcepkfgfdmaaSpB
import Derived.Test.YtmjbcepkfgfdmaaEnt
namespace Go.Proofs.Ytmjbcepkfgfdmaa
open Go.ChangeShapes Go.WideShapes Go.ChangeAt Go.RowKit
set_option linter.unusedVariables false
set_option linter.unusedSimpArgs false

/-- A drawn command is right. -/
def CmdDrawn : Prop := ∀ (w : World) (b : Nat) (a : Option Addr) (cap : Nat) (l : List Int) (M : Int), Src w b a cap l M → M ≤ 800000000 →
    Calls Try.prog 27 #[.pointer (some ⟨b, 0, none⟩)] w fun e w' => ∃ (k s q : Int) (key val : ByteArray), e = .returned (.agg #[.int .i64 k, .int .i64 s, .int .i64 q, .string key, .string val]) ∧ cmdOK k s q key val = true ∧ key.size + val.size ≤ 84 ∧ Src w' b a cap l (M + 100) ∧ Touch (fun k => k = b) w w'
theorem cmdBytes_len2 {k s q : Int} {key val : ByteArray} (h : key.size + val.size ≤ 84) : 1 ≤ (cmdBytes k s q key val).length ∧ (cmdBytes k s q key val).length ≤ 100 := by
  simp [cmdBytes, encN_len, textsL, bytesI]
  have h1 : key.data.size = key.size := rfl
  have h2 : val.data.size = val.size := rfl
  omega
def memsL : List ByteArray := [⟨#[0, 1, 2]⟩, ⟨#[0, 1]⟩, ⟨#[0, 1, 2, 3]⟩, ⟨#[4]⟩]
theorem mems_ok (t : Int) (h0 : 1 ≤ t) (h1 : t ≤ 1000000) : ∀ i, i < 4 → entOK t 2 (memsL.getD i ByteArray.empty) = true := by
  have e : inB t 1 1000000 = true := inB_iff.2 ⟨h0, h1⟩
  intro i hi
  unfold entOK
  rw [if_pos e]
  match i, hi with
  | 0, _ => decide
  | 1, _ => decide
  | 2, _ => decide
  | 3, _ => decide
theorem ent_none (t : Int) (h0 : 1 ≤ t) (h1 : t ≤ 1000000) : entOK t 0 ⟨#[]⟩ = true := by
  have e : inB t 1 1000000 = true := inB_iff.2 ⟨h0, h1⟩
  unfold entOK
  rw [if_pos e, if_pos rfl]
  exact emptyB_iff.2 rfl
theorem ent_data (t : Int) (d : ByteArray) (h0 : 1 ≤ t) (h1 : t ≤ 1000000) (h2 : 1 ≤ d.size) (h3 : d.size ≤ 100) : entOK t 1 d = true := by
  have e : inB t 1 1000000 = true := inB_iff.2 ⟨h0, h1⟩
  have e2 : inB d.size 1 100 = true := inB_iff.2 ⟨by omega, by omega⟩
  unfold entOK
  rw [if_pos e]
  simpa using e2

set_option maxRecDepth 100000 in
set_option maxHeartbeats 4000000 in
theorem srcEntry_any (HC : CmdDrawn) (w : World) (b : Nat) (a : Option Addr) (cap : Nat) (l : List Int) (M : Int) (h : Src w b a cap l M) (hM : M ≤ 700000000) :
    Calls Try.prog 34 #[.pointer (some ⟨b, 0, none⟩)] w fun e w' => ∃ (t k : Int) (d : ByteArray), e = .returned (.agg #[.int .i64 t, .int .i64 k, .string d]) ∧ entOK t k d = true ∧ Touch (fun k => k = b) w w' := by
  have hbl := h.lt
  have HCC := hide HC
  have S0 := hide (h.alloc (.cells #[.int .i64 0, .int .i64 0, .string ⟨#[]⟩] 31))
  have T0 := hide ((Touch.refl (fun k => k = b) w).alloc (.cells #[.int .i64 0, .int .i64 0, .string ⟨#[]⟩] 31))
  have R0 := hide (Blk.new w #[.int .i64 0, .int .i64 0, .string ⟨#[]⟩] 31 w.heap.size rfl)
  have hrb : w.heap.size ≠ b := by omega
  clear h HC
  go_enter Try.func34, Try.ntmps34
  go_wp2_with fail
  generalize w.alloc (.cells #[.int .i64 0, .int .i64 0, .string ⟨#[]⟩] 31) = w0 at *
  obtain ⟨rb, hrbe⟩ : ∃ rb, rb = w.heap.size := ⟨_, rfl⟩
  rw [← hrbe] at hrb R0 ⊢
  have HRB := hide hrbe
  clear hrbe
  refine (srcNext_any 4 w0 b a cap l M (unhide S0) (by omega) (by omega) (by omega)).mono ?_
  rintro e w1 ⟨x1, rfl, hx1, hx1b, hS, hO⟩
  have hTT := hO.touch
  have S1 : Hid (Src w1 b a cap l (M + 3)) := hide hS
  have T1 : Hid (Touch (fun k => k = b) w w1) := hide ((unhide T0).trans hTT (fun _ _ h => h))
  have R1 := hide ((unhide R0).kept hTT hrb)
  have n1 : IntKind.i64.wrap (1 + x1) = 1 + x1 := wrapS _ (by omega) (by omega)
  clear hS hO hTT S0 T0 R0
  go_wp2_with fail
  refine (unhide HCC w1 b a cap l (M + 3) (unhide S1) (by omega)).mono ?_
  rintro e w2 ⟨k, s, q, key, val, rfl, hok, hsz, hS, hTT⟩
  have S2 : Hid (Src w2 b a cap l (M + 103)) := hide (hS.mono (by omega))
  have T2 : Hid (Touch (fun k => k = b) w w2) := hide ((unhide T1).trans hTT (fun _ _ h => h))
  have R2 := hide ((unhide R1).kept hTT hrb)
  obtain ⟨g1, g2, g3, g4, g5, g6, g7, g8⟩ := cmdOK_bounds hok
  have hbz := cmdBytes_len2 (k := k) (s := s) (q := q) hsz
  clear hS hTT S1 T1 R1 hok hsz
  go_wp2_with fail
  refine (l02Bytes_any k s q key val w2 (by omega) (by omega) g3 g4 g5 g6 (by omega) (by omega)).mono ?_
  rintro e w3 ⟨v3, rfl, hOB, hb3⟩
  generalize cmdBytes k s q key val = cb at *
  have hTT : Touch (fun _ => False) w2 w3 := Touch.ofBelow hb3
  have S3 : Hid (Src w3 b a cap l (M + 103)) := hide ((unhide S2).grown (r := none) ⟨hb3.os, hb3.tape, hb3.output, hb3.size, fun k hk _ => hb3.block k hk⟩ (fun k e => by cases e))
  have T3 : Hid (Touch (fun k => k = b) w w3) := hide ((unhide T2).trans hTT (fun _ _ h => h.elim))
  have R3 := hide ((unhide R2).kept hTT (fun h => h))
  have hcv := conv_own (P := Try.prog) 22 9 5 Try.underlying22 Try.underlying5 Try.underlying9 hOB.1
  have hds : (strOfNums cb).size = cb.length := strOfNums_size cb
  generalize strOfNums cb = d at *
  clear hTT hb3 hOB S2 T2 R2
  have S4 := hide ((unhide S3).alloc (.cells #[.int .i64 (1 + x1), .int .i64 1, .string d] 31))
  have T4 := hide ((unhide T3).alloc (.cells #[.int .i64 (1 + x1), .int .i64 1, .string d] 31))
  have R4 := hide ((unhide R3).alloc (.cells #[.int .i64 (1 + x1), .int .i64 1, .string d] 31))
  have C4 := hide (Blk.new w3 #[.int .i64 (1 + x1), .int .i64 1, .string d] 31 w3.heap.size rfl)
  have hcb : w3.heap.size ≠ b := by have := (unhide S3).lt; omega
  have hcr : w3.heap.size ≠ rb := by have := (unhide R3).1; omega
  have hcw : w.heap.size ≤ w3.heap.size := (unhide T3).size
  have hrw : w.heap.size ≤ rb := Nat.le_of_eq (unhide HRB).symm
  go_wp2_with fail
  clear hcv S3 T3 R3
  generalize w3.alloc (.cells #[.int .i64 (1 + x1), .int .i64 1, .string d] 31) = w4 at *
  generalize w3.heap.size = ch at *
  refine (srcNext_any 6 w4 b a cap l (M + 103) (unhide S4) (by omega) (by omega) (by omega)).mono ?_
  rintro e w5 ⟨x2, rfl, hx2, hx2b, hS, hO⟩
  have hTT := hO.touch
  have S5 : Hid (Src w5 b a cap l (M + 106)) := hide (hS.mono (by omega))
  have T5 : Hid (Touch (fun k => k = b) w w5) := hide ((unhide T4).trans hTT (fun _ _ h => h))
  have R5 := hide ((unhide R4).kept hTT hrb)
  have C5 := hide ((unhide C4).kept hTT hcb)
  clear hS hO hTT S4 T4 R4 C4
  have q0 := (unhide C5).cell 0 rfl
  have q1 := (unhide C5).cell 1 rfl
  have q2 := (unhide C5).cell 2 rfl
  have r0 := (unhide R5).cell 0 rfl
  have r1 := (unhide R5).cell 1 rfl
  have r2 := (unhide R5).cell 2 rfl
  have fq0 := (unhide C5).fro 0
  have fq1 := (unhide C5).fro 1
  have fq2 := (unhide C5).fro 2
  have fr0 := (unhide R5).fro 0
  have fr1 := (unhide R5).fro 1
  have fr2 := (unhide R5).fro 2
  rcases (show x2 = 0 ∨ x2 = 1 ∨ (x2 ≠ 0 ∧ x2 ≠ 1) by omega) with rfl | rfl | ⟨hn0, hn1⟩
  · have hok := hide (ent_none (1 + x1) (by omega) (by omega))
    go_wp2_with fail
    have Z0 := hide (((((((unhide R5).other 0 (.int .i64 (1 + x1)) hcr).other 1 (.int .i64 0) hcr).other 2 (.string ⟨#[]⟩) hcr).set 0 (.int .i64 (1 + x1)) (by simp)).set 1 (.int .i64 0) (by simp)).set 2 (.string ⟨#[]⟩) (by simp))
    have T6 := hide (((((((unhide T5).setCell ⟨ch, 0, none⟩ (.int .i64 (1 + x1)) (fun hlt => by simp at hlt; omega)).setCell ⟨ch, 1, none⟩ (.int .i64 0) (fun hlt => by simp at hlt; omega)).setCell ⟨ch, 2, none⟩ (.string ⟨#[]⟩) (fun hlt => by simp at hlt; omega)).setCell ⟨rb, 0, none⟩ (.int .i64 (1 + x1)) (fun hlt => by simp at hlt; omega)).setCell ⟨rb, 1, none⟩ (.int .i64 0) (fun hlt => by simp at hlt; omega)).setCell ⟨rb, 2, none⟩ (.string ⟨#[]⟩) (fun hlt => by simp at hlt; omega))
    generalize ((((((w5.setCell ⟨ch, 0, none⟩ (.int .i64 (1 + x1))).setCell ⟨ch, 1, none⟩ (.int .i64 0)).setCell ⟨ch, 2, none⟩ (.string ⟨#[]⟩)).setCell ⟨rb, 0, none⟩ (.int .i64 (1 + x1))).setCell ⟨rb, 1, none⟩ (.int .i64 0)).setCell ⟨rb, 2, none⟩ (.string ⟨#[]⟩)) = wz at *
    have k0 := (unhide Z0).cell 0 rfl
    have k1 := (unhide Z0).cell 1 rfl
    have k2 := (unhide Z0).cell 2 rfl
    refine bodyPost_ret (v := .agg #[.int .i64 (1 + x1), .int .i64 0, .string ⟨#[]⟩]) (by simp [results, Try.results34, go_sem, k0, k1, k2]) rfl ?_
    exact ⟨_, _, _, rfl, (unhide hok), unhide T6⟩
  · have S6 := hide (((unhide S5).grown (OnlyAt.set ch _ 1 (.int .i64 2)).2 (fun j e => by cases e; omega)).alloc (.cells #[.string ⟨#[0, 1, 2]⟩, .string ⟨#[0, 1]⟩, .string ⟨#[0, 1, 2, 3]⟩, .string ⟨#[4]⟩] 9))
    have T6a := hide (((unhide T5).setCell ⟨ch, 1, none⟩ (.int .i64 2) (fun hlt => by simp at hlt; omega)).alloc (.cells #[.string ⟨#[0, 1, 2]⟩, .string ⟨#[0, 1]⟩, .string ⟨#[0, 1, 2, 3]⟩, .string ⟨#[4]⟩] 9))
    have C6 := hide (((unhide C5).set 1 (.int .i64 2) (by simp)).alloc (.cells #[.string ⟨#[0, 1, 2]⟩, .string ⟨#[0, 1]⟩, .string ⟨#[0, 1, 2, 3]⟩, .string ⟨#[4]⟩] 9))
    have R6 := hide (((unhide R5).other 1 (.int .i64 2) hcr).alloc (.cells #[.string ⟨#[0, 1, 2]⟩, .string ⟨#[0, 1]⟩, .string ⟨#[0, 1, 2, 3]⟩, .string ⟨#[4]⟩] 9))
    have L6 := hide (Blk.new (w5.setCell ⟨ch, 1, none⟩ (.int .i64 2)) #[.string ⟨#[0, 1, 2]⟩, .string ⟨#[0, 1]⟩, .string ⟨#[0, 1, 2, 3]⟩, .string ⟨#[4]⟩] 9 (w5.setCell ⟨ch, 1, none⟩ (.int .i64 2)).heap.size rfl)
    have hL6 : w5.heap.size ≠ b := by have := (unhide S5).lt; omega
    have hss : (w5.setCell ⟨ch, 1, none⟩ (.int .i64 2)).heap.size = w5.heap.size := by simp
    rw [hss] at L6
    clear hss
    go_wp2_with fail
    clear q0 q1 q2 r0 r1 r2 fq0 fq1 fq2 fr0 fr1 fr2
    generalize (w5.setCell ⟨ch, 1, none⟩ (.int .i64 2)).alloc (.cells #[.string ⟨#[0, 1, 2]⟩, .string ⟨#[0, 1]⟩, .string ⟨#[0, 1, 2, 3]⟩, .string ⟨#[4]⟩] 9) = w6 at *
    generalize w5.heap.size = lh at *
    refine (pick_any memsL lh w6 b a cap l (M + 106) (unhide S6) (by omega) (unhide L6) hL6 (by decide) (by decide)).mono ?_
    rintro e w7 ⟨i, hi, rfl, hS, hO⟩
    have hTT := hO.touch
    have hok := hide (mems_ok (1 + x1) (by omega) (by omega) i hi)
    have T7 : Hid (Touch (fun k => k = b) w w7) := hide ((unhide T6a).trans hTT (fun _ _ h => h))
    have R7 := hide ((unhide R6).kept hTT hrb)
    have C7 := hide ((unhide C6).kept hTT hcb)
    clear hS hO hTT S6 T6a C6 R6 L6
    generalize memsL.getD i ByteArray.empty = ms at *
    have q0 := (unhide C7).cell 0 rfl
    have q1 := (unhide C7).cell 1 rfl
    have q2 := (unhide C7).cell 2 rfl
    have r0 := (unhide R7).cell 0 rfl
    have r1 := (unhide R7).cell 1 rfl
    have r2 := (unhide R7).cell 2 rfl
    have fq2 := (unhide C7).fro 2
    have fr0 := (unhide R7).fro 0
    have fr1 := (unhide R7).fro 1
    have fr2 := (unhide R7).fro 2
    go_wp2_with fail
    have Z0 := hide (((((unhide R7).other 2 (.string ms) hcr).set 0 (.int .i64 (1 + x1)) (by simp)).set 1 (.int .i64 2) (by simp)).set 2 (.string ms) (by simp))
    have T6 := hide (((((unhide T7).setCell ⟨ch, 2, none⟩ (.string ms) (fun hlt => by simp at hlt; omega)).setCell ⟨rb, 0, none⟩ (.int .i64 (1 + x1)) (fun hlt => by simp at hlt; omega)).setCell ⟨rb, 1, none⟩ (.int .i64 2) (fun hlt => by simp at hlt; omega)).setCell ⟨rb, 2, none⟩ (.string ms) (fun hlt => by simp at hlt; omega))
    generalize ((((w7.setCell ⟨ch, 2, none⟩ (.string ms)).setCell ⟨rb, 0, none⟩ (.int .i64 (1 + x1))).setCell ⟨rb, 1, none⟩ (.int .i64 2)).setCell ⟨rb, 2, none⟩ (.string ms)) = wz at *
    have k0 := (unhide Z0).cell 0 rfl
    have k1 := (unhide Z0).cell 1 rfl
    have k2 := (unhide Z0).cell 2 rfl
    refine bodyPost_ret (v := .agg #[.int .i64 (1 + x1), .int .i64 2, .string ms]) (by simp [results, Try.results34, go_sem, k0, k1, k2]) rfl ?_
    exact ⟨_, _, _, rfl, (unhide hok), unhide T6⟩
  · have hok := hide (ent_data (1 + x1) d (by omega) (by omega) (by omega) (by omega))
    have hb0 : (x2 == 0) = false := by rw [beq_eq_false_iff_ne]; exact hn0
    have hb1 : (x2 == 1) = false := by rw [beq_eq_false_iff_ne]; exact hn1
    go_wp2_with fail
    have Z0 := hide ((((unhide R5).set 0 (.int .i64 (1 + x1)) (by simp)).set 1 (.int .i64 1) (by simp)).set 2 (.string d) (by simp))
    have T6 := hide ((((unhide T5).setCell ⟨rb, 0, none⟩ (.int .i64 (1 + x1)) (fun hlt => by simp at hlt; omega)).setCell ⟨rb, 1, none⟩ (.int .i64 1) (fun hlt => by simp at hlt; omega)).setCell ⟨rb, 2, none⟩ (.string d) (fun hlt => by simp at hlt; omega))
    generalize (((w5.setCell ⟨rb, 0, none⟩ (.int .i64 (1 + x1))).setCell ⟨rb, 1, none⟩ (.int .i64 1)).setCell ⟨rb, 2, none⟩ (.string d)) = wz at *
    have k0 := (unhide Z0).cell 0 rfl
    have k1 := (unhide Z0).cell 1 rfl
    have k2 := (unhide Z0).cell 2 rfl
    refine bodyPost_ret (v := .agg #[.int .i64 (1 + x1), .int .i64 1, .string d]) (by simp [results, Try.results34, go_sem, k0, k1, k2]) rfl ?_
    exact ⟨_, _, _, rfl, (unhide hok), unhide T6⟩
end Go.Proofs.Ytmjbcepkfgfdmaa
