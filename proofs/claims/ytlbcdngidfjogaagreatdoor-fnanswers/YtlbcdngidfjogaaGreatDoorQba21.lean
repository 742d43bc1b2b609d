/- What the proof of the claim needs (joined by program): SrcD. -/
import Derived.Test.YtlbcdngidfjogaaGreatDoorQba20
import Derived.Test.YtlbcdngidfjogaaGreatDoorQba08
namespace Go.Proofs.YtlbcdngidfjogaaGreatDoor
set_option maxRecDepth 100000
set_option maxHeartbeats 8000000
open Go.ChangeShapes Go.WideShapes Go.ChangeAt Go.RowKit
set_option linter.unusedVariables false
set_option linter.unusedSimpArgs false
theorem nameAt {α β γ δ : Type} (f : α → β → γ → δ → Prop) {x x' : α} {y y' : β} {z : γ} {u : δ} (hx : x = x') (hy : y = y') (h : ∀ F, F = f → F x' y' z u) : f x y z u := by subst hx hy; exact h f rfl

theorem zero_size : (⟨#[]⟩ : ByteArray).size + (⟨#[]⟩ : ByteArray).size ≤ 84 := by decide
theorem cmd_open (o1 o2 : Int) (h1 : 0 ≤ o1) (h2 : o1 < 2) (h3 : 0 ≤ o2) (h4 : o2 < 3) : cmdOK (4 + o1) (1 + o2) 0 ⟨#[]⟩ ⟨#[]⟩ = true := by
 have e1 : inB (1 + o2) 0 65535 = true := inB_iff.2 ⟨by omega, by omega⟩
 have e2 : inB 0 0 65535 = true := by decide
 have ee : emptyB ⟨#[]⟩ = true := emptyB_iff.2 rfl
 have e0 : (⟨#[]⟩ : ByteArray).size ≤ 60 := by decide
 rcases (show o1 = 0 ∨ o1 = 1 by omega) with rfl | rfl
 ·simp [cmdOK, e1, e2, ee, e0]
 ·simp [cmdOK, e1, e2, ee, e0]
theorem cmd_drawn (k x2 x3 : Int) (key val : ByteArray) (hk0 : 1 ≤ k) (hk3 : k ≤ 3) (hx2 : 0 ≤ x2) (hx2b : x2 < 3) (hx3 : 0 ≤ x3) (hx3b : x3 < 5) (hk1 : 1 ≤ key.size) (hk2 : key.size ≤ 24) (hv2 : val.size ≤ 60) :
  ∃ val2 : ByteArray, val2 = (if k = 3 then ⟨#[]⟩ else val) ∧ cmdOK k (1 + x2) (1 + x3) key val2 = true ∧ key.size + val2.size ≤ 84 := by
 have e1 : inB (1 + x2) 0 65535 = true := inB_iff.2 ⟨by omega, by omega⟩
 have e2 : inB (1 + x3) 0 65535 = true := inB_iff.2 ⟨by omega, by omega⟩
 have e3 : inB key.size 1 24 = true := inB_iff.2 ⟨by omega, by omega⟩
 have ee : emptyB ⟨#[]⟩ = true := emptyB_iff.2 rfl
 have e0 : (⟨#[]⟩ : ByteArray).size = 0 := by decide
 refine ⟨_, rfl, ?_⟩
 rcases (show k = 1 ∨ k = 2 ∨ k = 3 by omega) with rfl | rfl | rfl
 ·simp [cmdOK, e1, e2, e3, hv2]; omega
 ·simp [cmdOK, e1, e2, e3, hv2]; omega
 ·simp [cmdOK, e1, e2, e3, ee, e0]; omega
theorem srcCommand_any (w : World) (b : Nat) (a : Option Addr) (cap : Nat) (l : List Int) (M : Int) (h : Src w b a cap l M) (hM : M ≤ 800000000) :
  Calls Tryz.prog 17 #[.pointer (some ⟨b, 0, none⟩)] w fun e w' => ∃ (k s q : Int) (key val : ByteArray), e = .returned (.agg #[.int .i64 k, .int .i64 s, .int .i64 q, .string key, .string val]) ∧ cmdOK k s q key val = true ∧ key.size + val.size ≤ 84 ∧ Src w' b a cap l (M + 100) ∧ Touch (fun k => k = b) w w' := by
 have hbl := h.lt
 have S0 := Hd ((h.alloc (.cells #[.int .i64 0, .int .i64 0, .int .i64 0, .string ⟨#[]⟩, .string ⟨#[]⟩] 31)).drewN 1)
 have T0 := Hd ((((Touch.refl (fun k => k = b) w).alloc (.cells #[.int .i64 0, .int .i64 0, .int .i64 0, .string ⟨#[]⟩, .string ⟨#[]⟩] 31))).drewN 1)
 have R0 := Hd ((Blk.new w #[.int .i64 0, .int .i64 0, .int .i64 0, .string ⟨#[]⟩, .string ⟨#[]⟩] 31 w.heap.size rfl).drewN 1)
 clear h
 go_enter Tryz.func17, Tryz.ntmps17
 go_wp2_with fail
 refine wp_region_noPanic ?_
 refine wp_region_held_drew (S := (fun _ => True)) (by kernel_rfl) trivial (fun hHeld => ?_)
 refine wpAnyH_take (i := 1) (oi := _) (v := ?_) rfl (by kernel_rfl) (by kernel_rfl) (by kernel_rfl) (fun _ _ _ h => h) (Or.inl ⟨by rfl, ?_⟩) trivial ?_
 rotate_left 1
 ·(intro wq hSw; (try simp only [List.getElem_toArray, List.getElem_cons_succ, List.getElem_cons_zero]); go_simp; try with_reducible rfl)
 (try simp only [Act.put, List.getElem_toArray, List.getElem_cons_succ, List.getElem_cons_zero, List.setIfInBounds_toArray, List.set_cons_zero, List.set_cons_succ])
 refine wpAnyH_take (i := 5) (oi := _) (v := ?_) rfl (by kernel_rfl) (by kernel_rfl) (by kernel_rfl) (fun _ _ _ h => h) (Or.inl ⟨by rfl, ?_⟩) trivial ?_
 rotate_left 1
 ·(intro wq hSw; (try simp only [List.getElem_toArray, List.getElem_cons_succ, List.getElem_cons_zero]); go_simp; try with_reducible rfl)
 (try simp only [Act.put, List.getElem_toArray, List.getElem_cons_succ, List.getElem_cons_zero, List.setIfInBounds_toArray, List.set_cons_zero, List.set_cons_succ])
 refine wpAnyH_take (i := 8) (oi := _) (v := ?_) rfl (by kernel_rfl) (by kernel_rfl) (by kernel_rfl) (fun _ _ _ h => h) (Or.inl ⟨by rfl, ?_⟩) trivial ?_
 rotate_left 1
 ·(intro wq hSw; (try simp only [List.getElem_toArray, List.getElem_cons_succ, List.getElem_cons_zero]); go_simp; try with_reducible rfl)
 (try simp only [Act.put, List.getElem_toArray, List.getElem_cons_succ, List.getElem_cons_zero, List.setIfInBounds_toArray, List.set_cons_zero, List.set_cons_succ])
 refine wpAnyH_take (i := 11) (oi := _) (v := ?_) rfl (by kernel_rfl) (by kernel_rfl) (by kernel_rfl) (fun _ _ _ h => h) (Or.inl ⟨by rfl, ?_⟩) trivial ?_
 rotate_left 1
 ·(intro wq hSw; (try simp only [List.getElem_toArray, List.getElem_cons_succ, List.getElem_cons_zero]); go_simp; try with_reducible rfl)
 (try simp only [Act.put, List.getElem_toArray, List.getElem_cons_succ, List.getElem_cons_zero, List.setIfInBounds_toArray, List.set_cons_zero, List.set_cons_succ])
 refine wpAnyH_take (i := 13) (oi := _) (v := ?_) rfl (by kernel_rfl) (by kernel_rfl) (by kernel_rfl) (fun _ _ _ h => h) (Or.inl ⟨by rfl, ?_⟩) trivial ?_
 rotate_left 1
 ·(intro wq hSw; (try simp only [List.getElem_toArray, List.getElem_cons_succ, List.getElem_cons_zero]); go_simp; try with_reducible rfl)
 (try simp only [Act.put, List.getElem_toArray, List.getElem_cons_succ, List.getElem_cons_zero, List.setIfInBounds_toArray, List.set_cons_zero, List.set_cons_succ])
 refine nameAt (f := wpAnyH _ _ _ _ _) (x' := 13) (y' := #[false, true, false, false, false, true, false, false, true, false, false, true, false, true, false, false, false, false]) (by kernel_rfl) (by kernel_rfl) ?_
 intro F hF
 have HF := Hd hF
 clear hF hHeld
 have hrb : w.heap.size ≠ b := by omega
 change F 13 _ _ ((w.alloc (.cells #[.int .i64 0, .int .i64 0, .int .i64 0, .string ⟨#[]⟩, .string ⟨#[]⟩] 31)).drewN 1)
 generalize hw0 : (w.alloc (.cells #[.int .i64 0, .int .i64 0, .int .i64 0, .string ⟨#[]⟩, .string ⟨#[]⟩] 31)).drewN 1 = w0 at *
 have hrbw : Hid (w.heap.size = w.heap.size) := rfl
 obtain ⟨rb, hrbe⟩ : ∃ rb, rb = w.heap.size := ⟨_, rfl⟩
 rw [← hrbe] at hrb R0 ⊢
 have HRB := Hd hrbe
 clear hrbe hw0 hrbw
 have st5111 : Hid (∀ (wx : World) (wS : Hid (Src wx b a cap l (M + 15))) (wT : Hid (Touch (fun k => k = b) w wx)) (wR : Hid (Blk wx rb [.int .i64 0, .int .i64 0, .int .i64 0, .string ⟨#[]⟩, .string ⟨#[]⟩])) (x1 : Nat) (hx1 : x1 < 5) (x2 : Int) (hx2 : 0 ≤ x2) (hx2b : x2 < 3) (x3 : Int) (hx3 : 0 ≤ x3) (hx3b : x3 < 5) (key : ByteArray) (hk1 : 1 ≤ key.size) (hk2 : key.size ≤ 24) (val : ByteArray) (hv2 : val.size ≤ 60) (g : Nat) (hg : g ≠ b) (k : Int) (hk0 : 1 ≤ k) (hk3 : k ≤ 3) (hh : Nat) (hhb : hh ≠ b) (hhr : hh ≠ rb) (hhw : w.heap.size ≤ hh) (wH : Hid (Blk wx hh [.int .i64 0, .int .i64 0, .int .i64 0, .string ⟨#[]⟩, .string ⟨#[]⟩])), F 1 #[true, true, true, true, true, true, true, true, true, true, true, true, true, true, true, true, true, false] ⟨#[.pointer (some ⟨b, 0, none⟩), undef, .pointer (some ⟨rb, 0, none⟩), .pointer (some ⟨hh, 0, none⟩), .slice (some ⟨g, 0, none⟩) 5 5, .pointer (some ⟨b, 0, none⟩), .int .i64 (x1 : Int), .pointer (some ⟨g, x1, none⟩), .int .i64 k, .pointer (some ⟨b, 0, none⟩), .int .i64 x2, .int .i64 (1 + x2), .pointer (some ⟨b, 0, none⟩), .int .i64 x3, .int .i64 (1 + x3), .pointer (some ⟨b, 0, none⟩), .string key, .pointer (some ⟨b, 0, none⟩), .string val, .agg #[.int .i64 k, .int .i64 (1 + x2), .int .i64 (1 + x3), .string key, .string val], undef, undef, undef, undef, undef, undef, undef, undef, undef, undef, undef, undef, undef, undef], []⟩ wx) := by
  clear S0 T0 R0
  refine Hd ?_
  intro wx wS wT wR x1 hx1 x2 hx2 hx2b x3 hx3 hx3b key hk1 hk2 val hv2 g hg k hk0 hk3 hh hhb hhr hhw wH
  rw [uh HF]
  refine rdy1 17 rfl (fun K hK => ?_)
  obtain ⟨z0, z1, z2, z3, z4⟩ := Blk.c5 (uh wH)
  have y0 := (uh wH).fro 0
  have y1 := (uh wH).fro 1
  have y2 := (uh wH).fro 2
  have y3 := (uh wH).fro 3
  have y4 := (uh wH).fro 4
  go_simp
  clear z0 z1 z2 z3 z4 y0 y1 y2 y3 y4
  have hrw : w.heap.size ≤ rb := Nat.le_of_eq (uh HRB).symm
  have wH5 : Hid (Blk (((((wx.setCell ⟨hh, 0, none⟩ (.int .i64 k)).setCell ⟨hh, 1, none⟩ (.int .i64 (1 + x2))).setCell ⟨hh, 2, none⟩ (.int .i64 (1 + x3))).setCell ⟨hh, 3, none⟩ (.string key)).setCell ⟨hh, 4, none⟩ (.string val)) hh [.int .i64 k, .int .i64 (1 + x2), .int .i64 (1 + x3), .string key, .string val]) := Hd ((((((uh wH).set 0 (.int .i64 k) (by simp)).set 1 (.int .i64 (1 + x2)) (by simp)).set 2 (.int .i64 (1 + x3)) (by simp)).set 3 (.string key) (by simp)).set 4 (.string val) (by simp))
  have wR5 : Hid (Blk (((((wx.setCell ⟨hh, 0, none⟩ (.int .i64 k)).setCell ⟨hh, 1, none⟩ (.int .i64 (1 + x2))).setCell ⟨hh, 2, none⟩ (.int .i64 (1 + x3))).setCell ⟨hh, 3, none⟩ (.string key)).setCell ⟨hh, 4, none⟩ (.string val)) rb [.int .i64 0, .int .i64 0, .int .i64 0, .string ⟨#[]⟩, .string ⟨#[]⟩]) := Hd ((((((uh wR).other 0 (.int .i64 k) hhr).other 1 (.int .i64 (1 + x2)) hhr).other 2 (.int .i64 (1 + x3)) hhr).other 3 (.string key) hhr).other 4 (.string val) hhr)
  have wT5 : Hid (Touch (fun k => k = b) w (((((wx.setCell ⟨hh, 0, none⟩ (.int .i64 k)).setCell ⟨hh, 1, none⟩ (.int .i64 (1 + x2))).setCell ⟨hh, 2, none⟩ (.int .i64 (1 + x3))).setCell ⟨hh, 3, none⟩ (.string key)).setCell ⟨hh, 4, none⟩ (.string val))) := Hd ((((((uh wT).setCell ⟨hh, 0, none⟩ (.int .i64 k) (fun hlt => by simp at hlt; omega)).setCell ⟨hh, 1, none⟩ (.int .i64 (1 + x2)) (fun hlt => by simp at hlt; omega)).setCell ⟨hh, 2, none⟩ (.int .i64 (1 + x3)) (fun hlt => by simp at hlt; omega)).setCell ⟨hh, 3, none⟩ (.string key) (fun hlt => by simp at hlt; omega)).setCell ⟨hh, 4, none⟩ (.string val) (fun hlt => by simp at hlt; omega))
  have wS5 : Hid (Src (((((wx.setCell ⟨hh, 0, none⟩ (.int .i64 k)).setCell ⟨hh, 1, none⟩ (.int .i64 (1 + x2))).setCell ⟨hh, 2, none⟩ (.int .i64 (1 + x3))).setCell ⟨hh, 3, none⟩ (.string key)).setCell ⟨hh, 4, none⟩ (.string val)) b a cap l (M + 15)) := Hd ((((((uh wS).grown (OnlyAt.set hh _ 0 (.int .i64 k)).2 (fun j e => by cases e; omega)).grown (OnlyAt.set hh _ 1 (.int .i64 (1 + x2))).2 (fun j e => by cases e; omega)).grown (OnlyAt.set hh _ 2 (.int .i64 (1 + x3))).2 (fun j e => by cases e; omega)).grown (OnlyAt.set hh _ 3 (.string key)).2 (fun j e => by cases e; omega)).grown (OnlyAt.set hh _ 4 (.string val)).2 (fun j e => by cases e; omega))
  refine hK.out _ _ trivial (fun hHeld => ?_)
  clear hK K wH wR wT wS
  generalize (((((wx.setCell ⟨hh, 0, none⟩ (.int .i64 k)).setCell ⟨hh, 1, none⟩ (.int .i64 (1 + x2))).setCell ⟨hh, 2, none⟩ (.int .i64 (1 + x3))).setCell ⟨hh, 3, none⟩ (.string key)).setCell ⟨hh, 4, none⟩ (.string val)) = wz at *
  (try simp only [Act.put, List.getElem_toArray, List.getElem_cons_succ, List.getElem_cons_zero, List.setIfInBounds_toArray, List.set_cons_zero, List.set_cons_succ])
  refine wpAnyH_done (by kernel_rfl) (NoPanic.normal ?_) _
  clear hHeld HF
  have q0 := (uh wH5).cell 0 rfl
  have q4 := (uh wH5).cell 4 rfl
  have p4 := (uh wH5).fro 4
  obtain ⟨val2, hv3, hok, hsz⟩ := cmd_drawn k x2 x3 key val hk0 hk3 hx2 hx2b hx3 hx3b hk1 hk2 hv2
  have HOK := Hd (And.intro hok hsz)
  clear hok hsz
  rcases (show k = 3 ∨ k ≠ 3 by omega) with hk | hk
  ·rw [if_pos hk] at hv3
   subst hv3 hk
   have wH6 : Hid (Blk (wz.setCell ⟨hh, 4, none⟩ (.string ⟨#[]⟩)) hh [.int .i64 3, .int .i64 (1 + x2), .int .i64 (1 + x3), .string key, .string ⟨#[]⟩]) := Hd ((uh wH5).set 4 (.string ⟨#[]⟩) (by simp))
   have wR6 := Hd ((uh wR5).other 4 (.string ⟨#[]⟩) hhr)
   have wT6 : Hid (Touch (fun k => k = b) w (wz.setCell ⟨hh, 4, none⟩ (.string ⟨#[]⟩))) := Hd ((uh wT5).setCell ⟨hh, 4, none⟩ (.string ⟨#[]⟩) (fun hlt => by simp at hlt; omega))
   have wS6 := Hd ((uh wS5).grown (OnlyAt.set hh _ 4 (.string ⟨#[]⟩)).2 (fun j e => by cases e; omega))
   clear wH5 wR5 wT5 wS5
   go_wp2_with fail
   clear q0 q4 p4
   generalize wz.setCell ⟨hh, 4, none⟩ (.string ⟨#[]⟩) = wy at *
   refine (chance_any 4 wy b a cap l (M + 15) (uh wS6) (by omega) (by omega) (by omega)).mono ?_
   rintro e wc ⟨cq, rfl, hS, hO⟩
   have hTT := hO.touch
   have wS7 : Hid (Src wc b a cap l (M + 18)) := Hd (hS.mono (by omega))
   have wT7 : Hid (Touch (fun k => k = b) w wc) := Hd ((uh wT6).trans hTT (fun _ _ h => h))
   have wR7 := Hd ((uh wR6).kept hTT hrb)
   have wH7 := Hd ((uh wH6).kept hTT hhb)
   clear hS hO hTT wS6 wT6 wR6 wH6
   cases cq
   ·have q0 := (uh wH7).cell 0 rfl
    have r0 := (uh wR7).cell 0 rfl
    have f0 := (uh wR7).fro 0
    have fh0 := (uh wH7).fro 0
    have q1 := (uh wH7).cell 1 rfl
    have r1 := (uh wR7).cell 1 rfl
    have f1 := (uh wR7).fro 1
    have fh1 := (uh wH7).fro 1
    have q2 := (uh wH7).cell 2 rfl
    have r2 := (uh wR7).cell 2 rfl
    have f2 := (uh wR7).fro 2
    have fh2 := (uh wH7).fro 2
    have q3 := (uh wH7).cell 3 rfl
    have r3 := (uh wR7).cell 3 rfl
    have f3 := (uh wR7).fro 3
    have fh3 := (uh wH7).fro 3
    have q4 := (uh wH7).cell 4 rfl
    have r4 := (uh wR7).cell 4 rfl
    have f4 := (uh wR7).fro 4
    have fh4 := (uh wH7).fro 4
    go_wp2_with fail
    have Z0 := Hd ((((((uh wR7).set 0 (.int .i64 3) (by simp)).set 1 (.int .i64 (1 + x2)) (by simp)).set 2 (.int .i64 (1 + x3)) (by simp)).set 3 (.string key) (by simp)).set 4 (.string ⟨#[]⟩) (by simp))
    have wS8 : Hid (Src (((((wc.setCell ⟨rb, 0, none⟩ (.int .i64 3)).setCell ⟨rb, 1, none⟩ (.int .i64 (1 + x2))).setCell ⟨rb, 2, none⟩ (.int .i64 (1 + x3))).setCell ⟨rb, 3, none⟩ (.string key)).setCell ⟨rb, 4, none⟩ (.string ⟨#[]⟩)) b a cap l (M + 18)) := Hd ((((((uh wS7).grown (OnlyAt.set rb _ 0 (.int .i64 3)).2 (fun j e => by cases e; omega)).grown (OnlyAt.set rb _ 1 (.int .i64 (1 + x2))).2 (fun j e => by cases e; omega)).grown (OnlyAt.set rb _ 2 (.int .i64 (1 + x3))).2 (fun j e => by cases e; omega)).grown (OnlyAt.set rb _ 3 (.string key)).2 (fun j e => by cases e; omega)).grown (OnlyAt.set rb _ 4 (.string ⟨#[]⟩)).2 (fun j e => by cases e; omega))
    have wT8 : Hid (Touch (fun k => k = b) w (((((wc.setCell ⟨rb, 0, none⟩ (.int .i64 3)).setCell ⟨rb, 1, none⟩ (.int .i64 (1 + x2))).setCell ⟨rb, 2, none⟩ (.int .i64 (1 + x3))).setCell ⟨rb, 3, none⟩ (.string key)).setCell ⟨rb, 4, none⟩ (.string ⟨#[]⟩))) := Hd ((((((uh wT7).setCell ⟨rb, 0, none⟩ (.int .i64 3) (fun hlt => by simp at hlt; omega)).setCell ⟨rb, 1, none⟩ (.int .i64 (1 + x2)) (fun hlt => by simp at hlt; omega)).setCell ⟨rb, 2, none⟩ (.int .i64 (1 + x3)) (fun hlt => by simp at hlt; omega)).setCell ⟨rb, 3, none⟩ (.string key) (fun hlt => by simp at hlt; omega)).setCell ⟨rb, 4, none⟩ (.string ⟨#[]⟩) (fun hlt => by simp at hlt; omega))
    generalize (((((wc.setCell ⟨rb, 0, none⟩ (.int .i64 3)).setCell ⟨rb, 1, none⟩ (.int .i64 (1 + x2))).setCell ⟨rb, 2, none⟩ (.int .i64 (1 + x3))).setCell ⟨rb, 3, none⟩ (.string key)).setCell ⟨rb, 4, none⟩ (.string ⟨#[]⟩)) = wq at *
    obtain ⟨k0, k1, k2, k3, k4⟩ := Blk.c5 (uh Z0)
    refine bodyPost_ret (v := .agg #[.int .i64 3, .int .i64 (1 + x2), .int .i64 (1 + x3), .string key, .string ⟨#[]⟩]) (by simp [results, Tryz.results17, go_sem, k0, k1, k2, k3, k4]) rfl ?_
    refine ⟨_, _, _, _, _, rfl, (uh HOK).1, (uh HOK).2, ?_, ?_⟩
    ·exact (uh wS8).mono (by omega)
    ·exact uh wT8
   ·go_wp2_with fail
    refine (srcNext_any 2 wc b a cap l (M + 18) (uh wS7) (by omega) (by omega) (by omega)).mono ?_
    rintro e wd ⟨o1, rfl, ho1, ho1b, hS, hO⟩
    have hTT := hO.touch
    have wS8 : Hid (Src wd b a cap l (M + 21)) := Hd (hS.mono (by omega))
    have wT8 : Hid (Touch (fun k => k = b) w wd) := Hd ((uh wT7).trans hTT (fun _ _ h => h))
    have wR8 := Hd ((uh wR7).kept hTT hrb)
    have wH8 := Hd ((uh wH7).kept hTT hhb)
    have n1 : IntKind.i64.wrap (4 + o1) = 4 + o1 := wrapS _ (by omega) (by omega)
    clear hS hO hTT wS7 wT7 wR7 wH7
    go_wp2_with fail
    refine (srcNext_any 3 wd b a cap l (M + 21) (uh wS8) (by omega) (by omega) (by omega)).mono ?_
    rintro e we ⟨o2, rfl, ho2, ho2b, hS, hO⟩
    have hTT := hO.touch
    have wS9 : Hid (Src we b a cap l (M + 24)) := Hd (hS.mono (by omega))
    have wT9 : Hid (Touch (fun k => k = b) w we) := Hd ((uh wT8).trans hTT (fun _ _ h => h))
    have wR7 := Hd ((uh wR8).kept hTT hrb)
    have wH7 := Hd ((uh wH8).kept hTT hhb)
    have n2 : IntKind.i64.wrap (1 + o2) = 1 + o2 := wrapS _ (by omega) (by omega)
    clear hS hO hTT wS8 wT8 wR8 wH8
    have q0 := (uh wH7).cell 0 rfl
    have r0 := (uh wR7).cell 0 rfl
    have f0 := (uh wR7).fro 0
    have fh0 := (uh wH7).fro 0
    have q1 := (uh wH7).cell 1 rfl
    have r1 := (uh wR7).cell 1 rfl
    have f1 := (uh wR7).fro 1
    have fh1 := (uh wH7).fro 1
    have q2 := (uh wH7).cell 2 rfl
    have r2 := (uh wR7).cell 2 rfl
    have f2 := (uh wR7).fro 2
    have fh2 := (uh wH7).fro 2
    have q3 := (uh wH7).cell 3 rfl
    have r3 := (uh wR7).cell 3 rfl
    have f3 := (uh wR7).fro 3
    have fh3 := (uh wH7).fro 3
    have q4 := (uh wH7).cell 4 rfl
    have r4 := (uh wR7).cell 4 rfl
    have f4 := (uh wR7).fro 4
    have fh4 := (uh wH7).fro 4
    have hok2 := Hd (cmd_open o1 o2 ho1 ho1b ho2 ho2b)
    go_wp2_with fail
    have Z0 := Hd (((((((((((uh wR7).other 0 (.int .i64 (4 + o1)) hhr).other 1 (.int .i64 (1 + o2)) hhr).other 2 (.int .i64 0) hhr).other 3 (.string ⟨#[]⟩) hhr).other 4 (.string ⟨#[]⟩) hhr).set 0 (.int .i64 (4 + o1)) (by simp)).set 1 (.int .i64 (1 + o2)) (by simp)).set 2 (.int .i64 0) (by simp)).set 3 (.string ⟨#[]⟩) (by simp)).set 4 (.string ⟨#[]⟩) (by simp))
    have wS10 : Hid (Src ((((((((((we.setCell ⟨hh, 0, none⟩ (.int .i64 (4 + o1))).setCell ⟨hh, 1, none⟩ (.int .i64 (1 + o2))).setCell ⟨hh, 2, none⟩ (.int .i64 0)).setCell ⟨hh, 3, none⟩ (.string ⟨#[]⟩)).setCell ⟨hh, 4, none⟩ (.string ⟨#[]⟩)).setCell ⟨rb, 0, none⟩ (.int .i64 (4 + o1))).setCell ⟨rb, 1, none⟩ (.int .i64 (1 + o2))).setCell ⟨rb, 2, none⟩ (.int .i64 0)).setCell ⟨rb, 3, none⟩ (.string ⟨#[]⟩)).setCell ⟨rb, 4, none⟩ (.string ⟨#[]⟩)) b a cap l (M + 24)) := Hd (((((((((((uh wS9).grown (OnlyAt.set hh _ 0 (.int .i64 (4 + o1))).2 (fun j e => by cases e; omega)).grown (OnlyAt.set hh _ 1 (.int .i64 (1 + o2))).2 (fun j e => by cases e; omega)).grown (OnlyAt.set hh _ 2 (.int .i64 0)).2 (fun j e => by cases e; omega)).grown (OnlyAt.set hh _ 3 (.string ⟨#[]⟩)).2 (fun j e => by cases e; omega)).grown (OnlyAt.set hh _ 4 (.string ⟨#[]⟩)).2 (fun j e => by cases e; omega)).grown (OnlyAt.set rb _ 0 (.int .i64 (4 + o1))).2 (fun j e => by cases e; omega)).grown (OnlyAt.set rb _ 1 (.int .i64 (1 + o2))).2 (fun j e => by cases e; omega)).grown (OnlyAt.set rb _ 2 (.int .i64 0)).2 (fun j e => by cases e; omega)).grown (OnlyAt.set rb _ 3 (.string ⟨#[]⟩)).2 (fun j e => by cases e; omega)).grown (OnlyAt.set rb _ 4 (.string ⟨#[]⟩)).2 (fun j e => by cases e; omega))
    have wT10 : Hid (Touch (fun k => k = b) w ((((((((((we.setCell ⟨hh, 0, none⟩ (.int .i64 (4 + o1))).setCell ⟨hh, 1, none⟩ (.int .i64 (1 + o2))).setCell ⟨hh, 2, none⟩ (.int .i64 0)).setCell ⟨hh, 3, none⟩ (.string ⟨#[]⟩)).setCell ⟨hh, 4, none⟩ (.string ⟨#[]⟩)).setCell ⟨rb, 0, none⟩ (.int .i64 (4 + o1))).setCell ⟨rb, 1, none⟩ (.int .i64 (1 + o2))).setCell ⟨rb, 2, none⟩ (.int .i64 0)).setCell ⟨rb, 3, none⟩ (.string ⟨#[]⟩)).setCell ⟨rb, 4, none⟩ (.string ⟨#[]⟩))) := Hd (((((((((((uh wT9).setCell ⟨hh, 0, none⟩ (.int .i64 (4 + o1)) (fun hlt => by simp at hlt; omega)).setCell ⟨hh, 1, none⟩ (.int .i64 (1 + o2)) (fun hlt => by simp at hlt; omega)).setCell ⟨hh, 2, none⟩ (.int .i64 0) (fun hlt => by simp at hlt; omega)).setCell ⟨hh, 3, none⟩ (.string ⟨#[]⟩) (fun hlt => by simp at hlt; omega)).setCell ⟨hh, 4, none⟩ (.string ⟨#[]⟩) (fun hlt => by simp at hlt; omega)).setCell ⟨rb, 0, none⟩ (.int .i64 (4 + o1)) (fun hlt => by simp at hlt; omega)).setCell ⟨rb, 1, none⟩ (.int .i64 (1 + o2)) (fun hlt => by simp at hlt; omega)).setCell ⟨rb, 2, none⟩ (.int .i64 0) (fun hlt => by simp at hlt; omega)).setCell ⟨rb, 3, none⟩ (.string ⟨#[]⟩) (fun hlt => by simp at hlt; omega)).setCell ⟨rb, 4, none⟩ (.string ⟨#[]⟩) (fun hlt => by simp at hlt; omega))
    generalize ((((((((((we.setCell ⟨hh, 0, none⟩ (.int .i64 (4 + o1))).setCell ⟨hh, 1, none⟩ (.int .i64 (1 + o2))).setCell ⟨hh, 2, none⟩ (.int .i64 0)).setCell ⟨hh, 3, none⟩ (.string ⟨#[]⟩)).setCell ⟨hh, 4, none⟩ (.string ⟨#[]⟩)).setCell ⟨rb, 0, none⟩ (.int .i64 (4 + o1))).setCell ⟨rb, 1, none⟩ (.int .i64 (1 + o2))).setCell ⟨rb, 2, none⟩ (.int .i64 0)).setCell ⟨rb, 3, none⟩ (.string ⟨#[]⟩)).setCell ⟨rb, 4, none⟩ (.string ⟨#[]⟩)) = wq at *
    obtain ⟨k0, k1, k2, k3, k4⟩ := Blk.c5 (uh Z0)
    refine bodyPost_ret (v := .agg #[.int .i64 (4 + o1), .int .i64 (1 + o2), .int .i64 0, .string ⟨#[]⟩, .string ⟨#[]⟩]) (by simp [results, Tryz.results17, go_sem, k0, k1, k2, k3, k4]) rfl ?_
    refine ⟨_, _, _, _, _, rfl, uh hok2, zero_size, ?_, ?_⟩
    ·exact (uh wS10).mono (by omega)
    ·exact uh wT10
  ·rw [if_neg hk] at hv3
   subst hv3
   have hkb : (k == 3) = false := by rw [beq_eq_false_iff_ne]; exact hk
   have wH6 := wH5
   have wR6 := wR5
   have wT6 := wT5
   have wS6 := wS5
   clear wH5 wR5 wT5 wS5
   go_wp2_with fail
   clear q0 q4 p4
   refine (chance_any 4 wz b a cap l (M + 15) (uh wS6) (by omega) (by omega) (by omega)).mono ?_
   rintro e wc ⟨cq, rfl, hS, hO⟩
   have hTT := hO.touch
   have wS7 : Hid (Src wc b a cap l (M + 18)) := Hd (hS.mono (by omega))
   have wT7 : Hid (Touch (fun k => k = b) w wc) := Hd ((uh wT6).trans hTT (fun _ _ h => h))
   have wR7 := Hd ((uh wR6).kept hTT hrb)
   have wH7 := Hd ((uh wH6).kept hTT hhb)
   clear hS hO hTT wS6 wT6 wR6 wH6
   cases cq
   ·have q0 := (uh wH7).cell 0 rfl
    have r0 := (uh wR7).cell 0 rfl
    have f0 := (uh wR7).fro 0
    have fh0 := (uh wH7).fro 0
    have q1 := (uh wH7).cell 1 rfl
    have r1 := (uh wR7).cell 1 rfl
    have f1 := (uh wR7).fro 1
    have fh1 := (uh wH7).fro 1
    have q2 := (uh wH7).cell 2 rfl
    have r2 := (uh wR7).cell 2 rfl
    have f2 := (uh wR7).fro 2
    have fh2 := (uh wH7).fro 2
    have q3 := (uh wH7).cell 3 rfl
    have r3 := (uh wR7).cell 3 rfl
    have f3 := (uh wR7).fro 3
    have fh3 := (uh wH7).fro 3
    have q4 := (uh wH7).cell 4 rfl
    have r4 := (uh wR7).cell 4 rfl
    have f4 := (uh wR7).fro 4
    have fh4 := (uh wH7).fro 4
    go_wp2_with fail
    have Z0 := Hd ((((((uh wR7).set 0 (.int .i64 k) (by simp)).set 1 (.int .i64 (1 + x2)) (by simp)).set 2 (.int .i64 (1 + x3)) (by simp)).set 3 (.string key) (by simp)).set 4 (.string val2) (by simp))
    have wS8 : Hid (Src (((((wc.setCell ⟨rb, 0, none⟩ (.int .i64 k)).setCell ⟨rb, 1, none⟩ (.int .i64 (1 + x2))).setCell ⟨rb, 2, none⟩ (.int .i64 (1 + x3))).setCell ⟨rb, 3, none⟩ (.string key)).setCell ⟨rb, 4, none⟩ (.string val2)) b a cap l (M + 18)) := Hd ((((((uh wS7).grown (OnlyAt.set rb _ 0 (.int .i64 k)).2 (fun j e => by cases e; omega)).grown (OnlyAt.set rb _ 1 (.int .i64 (1 + x2))).2 (fun j e => by cases e; omega)).grown (OnlyAt.set rb _ 2 (.int .i64 (1 + x3))).2 (fun j e => by cases e; omega)).grown (OnlyAt.set rb _ 3 (.string key)).2 (fun j e => by cases e; omega)).grown (OnlyAt.set rb _ 4 (.string val2)).2 (fun j e => by cases e; omega))
    have wT8 : Hid (Touch (fun k => k = b) w (((((wc.setCell ⟨rb, 0, none⟩ (.int .i64 k)).setCell ⟨rb, 1, none⟩ (.int .i64 (1 + x2))).setCell ⟨rb, 2, none⟩ (.int .i64 (1 + x3))).setCell ⟨rb, 3, none⟩ (.string key)).setCell ⟨rb, 4, none⟩ (.string val2))) := Hd ((((((uh wT7).setCell ⟨rb, 0, none⟩ (.int .i64 k) (fun hlt => by simp at hlt; omega)).setCell ⟨rb, 1, none⟩ (.int .i64 (1 + x2)) (fun hlt => by simp at hlt; omega)).setCell ⟨rb, 2, none⟩ (.int .i64 (1 + x3)) (fun hlt => by simp at hlt; omega)).setCell ⟨rb, 3, none⟩ (.string key) (fun hlt => by simp at hlt; omega)).setCell ⟨rb, 4, none⟩ (.string val2) (fun hlt => by simp at hlt; omega))
    generalize (((((wc.setCell ⟨rb, 0, none⟩ (.int .i64 k)).setCell ⟨rb, 1, none⟩ (.int .i64 (1 + x2))).setCell ⟨rb, 2, none⟩ (.int .i64 (1 + x3))).setCell ⟨rb, 3, none⟩ (.string key)).setCell ⟨rb, 4, none⟩ (.string val2)) = wq at *
    obtain ⟨k0, k1, k2, k3, k4⟩ := Blk.c5 (uh Z0)
    refine bodyPost_ret (v := .agg #[.int .i64 k, .int .i64 (1 + x2), .int .i64 (1 + x3), .string key, .string val2]) (by simp [results, Tryz.results17, go_sem, k0, k1, k2, k3, k4]) rfl ?_
    refine ⟨_, _, _, _, _, rfl, (uh HOK).1, (uh HOK).2, ?_, ?_⟩
    ·exact (uh wS8).mono (by omega)
    ·exact uh wT8
   ·go_wp2_with fail
    refine (srcNext_any 2 wc b a cap l (M + 18) (uh wS7) (by omega) (by omega) (by omega)).mono ?_
    rintro e wd ⟨o1, rfl, ho1, ho1b, hS, hO⟩
    have hTT := hO.touch
    have wS8 : Hid (Src wd b a cap l (M + 21)) := Hd (hS.mono (by omega))
    have wT8 : Hid (Touch (fun k => k = b) w wd) := Hd ((uh wT7).trans hTT (fun _ _ h => h))
    have wR8 := Hd ((uh wR7).kept hTT hrb)
    have wH8 := Hd ((uh wH7).kept hTT hhb)
    have n1 : IntKind.i64.wrap (4 + o1) = 4 + o1 := wrapS _ (by omega) (by omega)
    clear hS hO hTT wS7 wT7 wR7 wH7
    go_wp2_with fail
    refine (srcNext_any 3 wd b a cap l (M + 21) (uh wS8) (by omega) (by omega) (by omega)).mono ?_
    rintro e we ⟨o2, rfl, ho2, ho2b, hS, hO⟩
    have hTT := hO.touch
    have wS9 : Hid (Src we b a cap l (M + 24)) := Hd (hS.mono (by omega))
    have wT9 : Hid (Touch (fun k => k = b) w we) := Hd ((uh wT8).trans hTT (fun _ _ h => h))
    have wR7 := Hd ((uh wR8).kept hTT hrb)
    have wH7 := Hd ((uh wH8).kept hTT hhb)
    have n2 : IntKind.i64.wrap (1 + o2) = 1 + o2 := wrapS _ (by omega) (by omega)
    clear hS hO hTT wS8 wT8 wR8 wH8
    have q0 := (uh wH7).cell 0 rfl
    have r0 := (uh wR7).cell 0 rfl
    have f0 := (uh wR7).fro 0
    have fh0 := (uh wH7).fro 0
    have q1 := (uh wH7).cell 1 rfl
    have r1 := (uh wR7).cell 1 rfl
    have f1 := (uh wR7).fro 1
    have fh1 := (uh wH7).fro 1
    have q2 := (uh wH7).cell 2 rfl
    have r2 := (uh wR7).cell 2 rfl
    have f2 := (uh wR7).fro 2
    have fh2 := (uh wH7).fro 2
    have q3 := (uh wH7).cell 3 rfl
    have r3 := (uh wR7).cell 3 rfl
    have f3 := (uh wR7).fro 3
    have fh3 := (uh wH7).fro 3
    have q4 := (uh wH7).cell 4 rfl
    have r4 := (uh wR7).cell 4 rfl
    have f4 := (uh wR7).fro 4
    have fh4 := (uh wH7).fro 4
    have hok2 := Hd (cmd_open o1 o2 ho1 ho1b ho2 ho2b)
    go_wp2_with fail
    have Z0 := Hd (((((((((((uh wR7).other 0 (.int .i64 (4 + o1)) hhr).other 1 (.int .i64 (1 + o2)) hhr).other 2 (.int .i64 0) hhr).other 3 (.string ⟨#[]⟩) hhr).other 4 (.string ⟨#[]⟩) hhr).set 0 (.int .i64 (4 + o1)) (by simp)).set 1 (.int .i64 (1 + o2)) (by simp)).set 2 (.int .i64 0) (by simp)).set 3 (.string ⟨#[]⟩) (by simp)).set 4 (.string ⟨#[]⟩) (by simp))
    have wS10 : Hid (Src ((((((((((we.setCell ⟨hh, 0, none⟩ (.int .i64 (4 + o1))).setCell ⟨hh, 1, none⟩ (.int .i64 (1 + o2))).setCell ⟨hh, 2, none⟩ (.int .i64 0)).setCell ⟨hh, 3, none⟩ (.string ⟨#[]⟩)).setCell ⟨hh, 4, none⟩ (.string ⟨#[]⟩)).setCell ⟨rb, 0, none⟩ (.int .i64 (4 + o1))).setCell ⟨rb, 1, none⟩ (.int .i64 (1 + o2))).setCell ⟨rb, 2, none⟩ (.int .i64 0)).setCell ⟨rb, 3, none⟩ (.string ⟨#[]⟩)).setCell ⟨rb, 4, none⟩ (.string ⟨#[]⟩)) b a cap l (M + 24)) := Hd (((((((((((uh wS9).grown (OnlyAt.set hh _ 0 (.int .i64 (4 + o1))).2 (fun j e => by cases e; omega)).grown (OnlyAt.set hh _ 1 (.int .i64 (1 + o2))).2 (fun j e => by cases e; omega)).grown (OnlyAt.set hh _ 2 (.int .i64 0)).2 (fun j e => by cases e; omega)).grown (OnlyAt.set hh _ 3 (.string ⟨#[]⟩)).2 (fun j e => by cases e; omega)).grown (OnlyAt.set hh _ 4 (.string ⟨#[]⟩)).2 (fun j e => by cases e; omega)).grown (OnlyAt.set rb _ 0 (.int .i64 (4 + o1))).2 (fun j e => by cases e; omega)).grown (OnlyAt.set rb _ 1 (.int .i64 (1 + o2))).2 (fun j e => by cases e; omega)).grown (OnlyAt.set rb _ 2 (.int .i64 0)).2 (fun j e => by cases e; omega)).grown (OnlyAt.set rb _ 3 (.string ⟨#[]⟩)).2 (fun j e => by cases e; omega)).grown (OnlyAt.set rb _ 4 (.string ⟨#[]⟩)).2 (fun j e => by cases e; omega))
    have wT10 : Hid (Touch (fun k => k = b) w ((((((((((we.setCell ⟨hh, 0, none⟩ (.int .i64 (4 + o1))).setCell ⟨hh, 1, none⟩ (.int .i64 (1 + o2))).setCell ⟨hh, 2, none⟩ (.int .i64 0)).setCell ⟨hh, 3, none⟩ (.string ⟨#[]⟩)).setCell ⟨hh, 4, none⟩ (.string ⟨#[]⟩)).setCell ⟨rb, 0, none⟩ (.int .i64 (4 + o1))).setCell ⟨rb, 1, none⟩ (.int .i64 (1 + o2))).setCell ⟨rb, 2, none⟩ (.int .i64 0)).setCell ⟨rb, 3, none⟩ (.string ⟨#[]⟩)).setCell ⟨rb, 4, none⟩ (.string ⟨#[]⟩))) := Hd (((((((((((uh wT9).setCell ⟨hh, 0, none⟩ (.int .i64 (4 + o1)) (fun hlt => by simp at hlt; omega)).setCell ⟨hh, 1, none⟩ (.int .i64 (1 + o2)) (fun hlt => by simp at hlt; omega)).setCell ⟨hh, 2, none⟩ (.int .i64 0) (fun hlt => by simp at hlt; omega)).setCell ⟨hh, 3, none⟩ (.string ⟨#[]⟩) (fun hlt => by simp at hlt; omega)).setCell ⟨hh, 4, none⟩ (.string ⟨#[]⟩) (fun hlt => by simp at hlt; omega)).setCell ⟨rb, 0, none⟩ (.int .i64 (4 + o1)) (fun hlt => by simp at hlt; omega)).setCell ⟨rb, 1, none⟩ (.int .i64 (1 + o2)) (fun hlt => by simp at hlt; omega)).setCell ⟨rb, 2, none⟩ (.int .i64 0) (fun hlt => by simp at hlt; omega)).setCell ⟨rb, 3, none⟩ (.string ⟨#[]⟩) (fun hlt => by simp at hlt; omega)).setCell ⟨rb, 4, none⟩ (.string ⟨#[]⟩) (fun hlt => by simp at hlt; omega))
    generalize ((((((((((we.setCell ⟨hh, 0, none⟩ (.int .i64 (4 + o1))).setCell ⟨hh, 1, none⟩ (.int .i64 (1 + o2))).setCell ⟨hh, 2, none⟩ (.int .i64 0)).setCell ⟨hh, 3, none⟩ (.string ⟨#[]⟩)).setCell ⟨hh, 4, none⟩ (.string ⟨#[]⟩)).setCell ⟨rb, 0, none⟩ (.int .i64 (4 + o1))).setCell ⟨rb, 1, none⟩ (.int .i64 (1 + o2))).setCell ⟨rb, 2, none⟩ (.int .i64 0)).setCell ⟨rb, 3, none⟩ (.string ⟨#[]⟩)).setCell ⟨rb, 4, none⟩ (.string ⟨#[]⟩)) = wq at *
    obtain ⟨k0, k1, k2, k3, k4⟩ := Blk.c5 (uh Z0)
    refine bodyPost_ret (v := .agg #[.int .i64 (4 + o1), .int .i64 (1 + o2), .int .i64 0, .string ⟨#[]⟩, .string ⟨#[]⟩]) (by simp [results, Tryz.results17, go_sem, k0, k1, k2, k3, k4]) rfl ?_
    refine ⟨_, _, _, _, _, rfl, uh hok2, zero_size, ?_, ?_⟩
    ·exact (uh wS10).mono (by omega)
    ·exact uh wT10
 have st5101 : Hid (∀ (wx : World) (wS : Hid (Src wx b a cap l (M + 15))) (wT : Hid (Touch (fun k => k = b) w wx)) (wR : Hid (Blk wx rb [.int .i64 0, .int .i64 0, .int .i64 0, .string ⟨#[]⟩, .string ⟨#[]⟩])) (x1 : Nat) (hx1 : x1 < 5) (x2 : Int) (hx2 : 0 ≤ x2) (hx2b : x2 < 3) (x3 : Int) (hx3 : 0 ≤ x3) (hx3b : x3 < 5) (key : ByteArray) (hk1 : 1 ≤ key.size) (hk2 : key.size ≤ 24) (val : ByteArray) (hv2 : val.size ≤ 60) (g : Nat) (hg : g ≠ b) (wB : Hid (Blk wx g [.int .i64 1, .int .i64 1, .int .i64 2, .int .i64 2, .int .i64 3])) (hh : Nat) (hhb : hh ≠ b) (hhr : hh ≠ rb) (hhw : w.heap.size ≤ hh) (wH : Hid (Blk wx hh [.int .i64 0, .int .i64 0, .int .i64 0, .string ⟨#[]⟩, .string ⟨#[]⟩])), F 3 #[true, true, true, true, false, true, true, true, true, true, true, true, true, true, true, false, true, false] ⟨#[.pointer (some ⟨b, 0, none⟩), undef, .pointer (some ⟨rb, 0, none⟩), .pointer (some ⟨hh, 0, none⟩), .slice (some ⟨g, 0, none⟩) 5 5, .pointer (some ⟨b, 0, none⟩), .int .i64 (x1 : Int), .pointer (some ⟨g, x1, none⟩), undef, .pointer (some ⟨b, 0, none⟩), .int .i64 x2, .int .i64 (1 + x2), .pointer (some ⟨b, 0, none⟩), .int .i64 x3, .int .i64 (1 + x3), .pointer (some ⟨b, 0, none⟩), .string key, .pointer (some ⟨b, 0, none⟩), .string val, undef, undef, undef, undef, undef, undef, undef, undef, undef, undef, undef, undef, undef, undef, undef], []⟩ wx) := by
  clear S0 T0 R0
  refine Hd ?_
  intro wx wS wT wR x1 hx1 x2 hx2 hx2b x3 hx3 hx3b key hk1 hk2 val hv2 g hg wB hh hhb hhr hhw wH
  rw [uh HF]
  refine rdy1 4 rfl (fun K hK => ?_)
  ·obtain ⟨k, hk0, hk3, hc⟩ : ∃ k : Int, 1 ≤ k ∧ k ≤ 3 ∧ wx.cell? ⟨g, x1, none⟩ = some (.int .i64 k) := by
    have hB := uh wB
    match x1, hx1 with
    | 0, _ => exact ⟨1, by omega, by omega, hB.cell 0 rfl⟩
    | 1, _ => exact ⟨1, by omega, by omega, hB.cell 1 rfl⟩
    | 2, _ => exact ⟨2, by omega, by omega, hB.cell 2 rfl⟩
    | 3, _ => exact ⟨2, by omega, by omega, hB.cell 3 rfl⟩
    | 4, _ => exact ⟨3, by omega, by omega, hB.cell 4 rfl⟩
   clear wB
   have wS2 := wS
   have wT2 := wT
   have wR2 := wR
   go_simp
   refine hK.out _ _ trivial (fun hHeld => ?_)
   clear hK K
   (try simp only [Act.put, List.getElem_toArray, List.getElem_cons_succ, List.getElem_cons_zero, List.setIfInBounds_toArray, List.set_cons_zero, List.set_cons_succ])
   refine wpAnyH_take (i := 15) (oi := _) (v := ?_) rfl (by kernel_rfl) (by kernel_rfl) (by kernel_rfl) (fun _ _ _ h => h) (Or.inl ⟨by rfl, ?_⟩) trivial ?_
   rotate_left 1
   ·(intro wq hSw; (try simp only [List.getElem_toArray, List.getElem_cons_succ, List.getElem_cons_zero]); go_simp; try with_reducible rfl)
   (try simp only [Act.put, List.getElem_toArray, List.getElem_cons_succ, List.getElem_cons_zero, List.setIfInBounds_toArray, List.set_cons_zero, List.set_cons_succ])
   have fin := uh st5111 _ wS2 wT2 wR2 x1 hx1 x2 hx2 hx2b x3 hx3 hx3b key hk1 hk2 val hv2 g hg k hk0 hk3 hh hhb hhr hhw wH
   rw [uh HF] at fin
   exact fin
 have st5001 : Hid (∀ (wx : World) (wS : Hid (Src wx b a cap l (M + 15))) (wT : Hid (Touch (fun k => k = b) w wx)) (wR : Hid (Blk wx rb [.int .i64 0, .int .i64 0, .int .i64 0, .string ⟨#[]⟩, .string ⟨#[]⟩])) (x1 : Nat) (hx1 : x1 < 5) (x2 : Int) (hx2 : 0 ≤ x2) (hx2b : x2 < 3) (x3 : Int) (hx3 : 0 ≤ x3) (hx3b : x3 < 5) (key : ByteArray) (hk1 : 1 ≤ key.size) (hk2 : key.size ≤ 24) (val : ByteArray) (hv2 : val.size ≤ 60) (hh : Nat) (hhb : hh ≠ b) (hhr : hh ≠ rb) (hhw : w.heap.size ≤ hh) (wH : Hid (Blk wx hh [.int .i64 0, .int .i64 0, .int .i64 0, .string ⟨#[]⟩, .string ⟨#[]⟩])), F 5 #[false, true, true, false, false, true, true, true, true, true, true, true, true, true, true, false, true, false] ⟨#[.pointer (some ⟨b, 0, none⟩), undef, .pointer (some ⟨rb, 0, none⟩), .pointer (some ⟨hh, 0, none⟩), undef, .pointer (some ⟨b, 0, none⟩), .int .i64 (x1 : Int), undef, undef, .pointer (some ⟨b, 0, none⟩), .int .i64 x2, .int .i64 (1 + x2), .pointer (some ⟨b, 0, none⟩), .int .i64 x3, .int .i64 (1 + x3), .pointer (some ⟨b, 0, none⟩), .string key, .pointer (some ⟨b, 0, none⟩), .string val, undef, undef, undef, undef, undef, undef, undef, undef, undef, undef, undef, undef, undef, undef, undef], []⟩ wx) := by
  clear st5111
  clear S0 T0 R0
  refine Hd ?_
  intro wx wS wT wR x1 hx1 x2 hx2 hx2b x3 hx3 hx3b key hk1 hk2 val hv2 hh hhb hhr hhw wH
  rw [uh HF]
  refine rdy1 0 rfl (fun K hK => ?_)
  ·have wB2 : Hid (Blk (wx.alloc (.cells #[.int .i64 1, .int .i64 1, .int .i64 2, .int .i64 2, .int .i64 3] 3)) wx.heap.size [.int .i64 1, .int .i64 1, .int .i64 2, .int .i64 2, .int .i64 3]) := Hd (Blk.new wx #[.int .i64 1, .int .i64 1, .int .i64 2, .int .i64 2, .int .i64 3] 3 wx.heap.size rfl)
   have wS2 : Hid (Src (wx.alloc (.cells #[.int .i64 1, .int .i64 1, .int .i64 2, .int .i64 2, .int .i64 3] 3)) b a cap l (M + 15)) := Hd ((uh wS).alloc _)
   have wT2 : Hid (Touch (fun k => k = b) w (wx.alloc (.cells #[.int .i64 1, .int .i64 1, .int .i64 2, .int .i64 2, .int .i64 3] 3))) := Hd ((uh wT).alloc _)
   have wR2 : Hid (Blk (wx.alloc (.cells #[.int .i64 1, .int .i64 1, .int .i64 2, .int .i64 2, .int .i64 3] 3)) rb [.int .i64 0, .int .i64 0, .int .i64 0, .string ⟨#[]⟩, .string ⟨#[]⟩]) := Hd ((uh wR).alloc _)
   have hg : wx.heap.size ≠ b := by have := (uh wS).lt; omega
   have wH2 : Hid (Blk (wx.alloc (.cells #[.int .i64 1, .int .i64 1, .int .i64 2, .int .i64 2, .int .i64 3] 3)) hh [.int .i64 0, .int .i64 0, .int .i64 0, .string ⟨#[]⟩, .string ⟨#[]⟩]) := Hd ((uh wH).alloc _)
   clear wH
   clear wS wT wR
   go_simp
   refine hK.out _ _ trivial (fun hHeld => ?_)
   clear hK K
   (try simp only [Act.put, List.getElem_toArray, List.getElem_cons_succ, List.getElem_cons_zero, List.setIfInBounds_toArray, List.set_cons_zero, List.set_cons_succ])
   generalize wx.alloc (.cells #[.int .i64 1, .int .i64 1, .int .i64 2, .int .i64 2, .int .i64 3] 3) = wy at *
   generalize wx.heap.size = g at *
   have hx1i : (x1 : Int) < 5 := by omega
   have hx1j : 0 ≤ (x1 : Int) := by omega
   refine wpAnyH_take (i := 3) (oi := _) (v := ?_) rfl (by kernel_rfl) (by kernel_rfl) (by kernel_rfl) (fun _ _ _ h => h) (Or.inl ⟨by rfl, ?_⟩) trivial ?_
   rotate_left 1
   ·(intro wq hSw; (try simp only [List.getElem_toArray, List.getElem_cons_succ, List.getElem_cons_zero]); go_simp; try with_reducible rfl)
   (try simp only [Act.put, List.getElem_toArray, List.getElem_cons_succ, List.getElem_cons_zero, List.setIfInBounds_toArray, List.set_cons_zero, List.set_cons_succ])
   have fin := uh st5101 _ wS2 wT2 wR2 x1 hx1 x2 hx2 hx2b x3 hx3 hx3b key hk1 hk2 val hv2 g hg wB2 hh hhb hhr hhw wH2
   rw [uh HF] at fin
   exact fin
 have st4111 : Hid (∀ (wx : World) (wS : Hid (Src wx b a cap l (M + 12))) (wT : Hid (Touch (fun k => k = b) w wx)) (wR : Hid (Blk wx rb [.int .i64 0, .int .i64 0, .int .i64 0, .string ⟨#[]⟩, .string ⟨#[]⟩])) (x1 : Nat) (hx1 : x1 < 5) (x2 : Int) (hx2 : 0 ≤ x2) (hx2b : x2 < 3) (x3 : Int) (hx3 : 0 ≤ x3) (hx3b : x3 < 5) (key : ByteArray) (hk1 : 1 ≤ key.size) (hk2 : key.size ≤ 24) (g : Nat) (hg : g ≠ b) (k : Int) (hk0 : 1 ≤ k) (hk3 : k ≤ 3) (hh : Nat) (hhb : hh ≠ b) (hhr : hh ≠ rb) (hhw : w.heap.size ≤ hh) (wH : Hid (Blk wx hh [.int .i64 0, .int .i64 0, .int .i64 0, .string ⟨#[]⟩, .string ⟨#[]⟩])), F 3 #[true, true, true, true, true, true, true, true, true, true, true, true, true, true, false, false, true, false] ⟨#[.pointer (some ⟨b, 0, none⟩), undef, .pointer (some ⟨rb, 0, none⟩), .pointer (some ⟨hh, 0, none⟩), .slice (some ⟨g, 0, none⟩) 5 5, .pointer (some ⟨b, 0, none⟩), .int .i64 (x1 : Int), .pointer (some ⟨g, x1, none⟩), .int .i64 k, .pointer (some ⟨b, 0, none⟩), .int .i64 x2, .int .i64 (1 + x2), .pointer (some ⟨b, 0, none⟩), .int .i64 x3, .int .i64 (1 + x3), .pointer (some ⟨b, 0, none⟩), .string key, .pointer (some ⟨b, 0, none⟩), undef, undef, undef, undef, undef, undef, undef, undef, undef, undef, undef, undef, undef, undef, undef, undef], []⟩ wx) := by
  clear st5101 st5001
  clear S0 T0 R0
  refine Hd ?_
  intro wx wS wT wR x1 hx1 x2 hx2 hx2b x3 hx3 hx3b key hk1 hk2 g hg k hk0 hk3 hh hhb hhr hhw wH
  rw [uh HF]
  refine rdy1 14 rfl (fun K hK => ?_)
  ·go_simp
   refine (datum_any wx b a cap l (M + 12) (uh wS) (by omega)).mono ?_
   rintro e wy ⟨val, rfl, hv2, hS, hTT⟩
   have wS2 : Hid (Src wy b a cap l (M + 15)) := Hd (hS.mono (by omega))
   have wT2 : Hid (Touch (fun k => k = b) w wy) := Hd ((uh wT).trans hTT (fun _ _ h => h))
   have wR2 : Hid (Blk wy rb [.int .i64 0, .int .i64 0, .int .i64 0, .string ⟨#[]⟩, .string ⟨#[]⟩]) := Hd ((uh wR).kept hTT hrb)
   have wH2 : Hid (Blk wy hh [.int .i64 0, .int .i64 0, .int .i64 0, .string ⟨#[]⟩, .string ⟨#[]⟩]) := Hd ((uh wH).kept hTT hhb)
   clear hS hTT wS wT wR
   clear wH
   go_wp2_with fail
   refine hK.out _ _ trivial (fun hHeld => ?_)
   clear hK K
   (try simp only [Act.put, List.getElem_toArray, List.getElem_cons_succ, List.getElem_cons_zero, List.setIfInBounds_toArray, List.set_cons_zero, List.set_cons_succ])
   refine wpAnyH_take (i := 15) (oi := _) (v := ?_) rfl (by kernel_rfl) (by kernel_rfl) (by kernel_rfl) (fun _ _ _ h => h) (Or.inl ⟨by rfl, ?_⟩) trivial ?_
   rotate_left 1
   ·(intro wq hSw; (try simp only [List.getElem_toArray, List.getElem_cons_succ, List.getElem_cons_zero]); go_simp; try with_reducible rfl)
   (try simp only [Act.put, List.getElem_toArray, List.getElem_cons_succ, List.getElem_cons_zero, List.setIfInBounds_toArray, List.set_cons_zero, List.set_cons_succ])
   have fin := uh st5111 _ wS2 wT2 wR2 x1 hx1 x2 hx2 hx2b x3 hx3 hx3b key hk1 hk2 val hv2 g hg k hk0 hk3 hh hhb hhr hhw wH2
   rw [uh HF] at fin
   exact fin
 have st4101 : Hid (∀ (wx : World) (wS : Hid (Src wx b a cap l (M + 12))) (wT : Hid (Touch (fun k => k = b) w wx)) (wR : Hid (Blk wx rb [.int .i64 0, .int .i64 0, .int .i64 0, .string ⟨#[]⟩, .string ⟨#[]⟩])) (x1 : Nat) (hx1 : x1 < 5) (x2 : Int) (hx2 : 0 ≤ x2) (hx2b : x2 < 3) (x3 : Int) (hx3 : 0 ≤ x3) (hx3b : x3 < 5) (key : ByteArray) (hk1 : 1 ≤ key.size) (hk2 : key.size ≤ 24) (g : Nat) (hg : g ≠ b) (wB : Hid (Blk wx g [.int .i64 1, .int .i64 1, .int .i64 2, .int .i64 2, .int .i64 3])) (hh : Nat) (hhb : hh ≠ b) (hhr : hh ≠ rb) (hhw : w.heap.size ≤ hh) (wH : Hid (Blk wx hh [.int .i64 0, .int .i64 0, .int .i64 0, .string ⟨#[]⟩, .string ⟨#[]⟩])), F 4 #[true, true, true, true, false, true, true, true, true, true, true, true, true, true, false, false, true, false] ⟨#[.pointer (some ⟨b, 0, none⟩), undef, .pointer (some ⟨rb, 0, none⟩), .pointer (some ⟨hh, 0, none⟩), .slice (some ⟨g, 0, none⟩) 5 5, .pointer (some ⟨b, 0, none⟩), .int .i64 (x1 : Int), .pointer (some ⟨g, x1, none⟩), undef, .pointer (some ⟨b, 0, none⟩), .int .i64 x2, .int .i64 (1 + x2), .pointer (some ⟨b, 0, none⟩), .int .i64 x3, .int .i64 (1 + x3), .pointer (some ⟨b, 0, none⟩), .string key, .pointer (some ⟨b, 0, none⟩), undef, undef, undef, undef, undef, undef, undef, undef, undef, undef, undef, undef, undef, undef, undef, undef], []⟩ wx) := by
  clear st5111 st5001
  clear S0 T0 R0
  refine Hd ?_
  intro wx wS wT wR x1 hx1 x2 hx2 hx2b x3 hx3 hx3b key hk1 hk2 g hg wB hh hhb hhr hhw wH
  rw [uh HF]
  refine rdy2 4 14 rfl rfl (fun K hK => ?_) (fun K hK => ?_)
  ·obtain ⟨k, hk0, hk3, hc⟩ : ∃ k : Int, 1 ≤ k ∧ k ≤ 3 ∧ wx.cell? ⟨g, x1, none⟩ = some (.int .i64 k) := by
    have hB := uh wB
    match x1, hx1 with
    | 0, _ => exact ⟨1, by omega, by omega, hB.cell 0 rfl⟩
    | 1, _ => exact ⟨1, by omega, by omega, hB.cell 1 rfl⟩
    | 2, _ => exact ⟨2, by omega, by omega, hB.cell 2 rfl⟩
    | 3, _ => exact ⟨2, by omega, by omega, hB.cell 3 rfl⟩
    | 4, _ => exact ⟨3, by omega, by omega, hB.cell 4 rfl⟩
   clear wB
   have wS2 := wS
   have wT2 := wT
   have wR2 := wR
   go_simp
   refine hK.out _ _ trivial (fun hHeld => ?_)
   clear hK K
   (try simp only [Act.put, List.getElem_toArray, List.getElem_cons_succ, List.getElem_cons_zero, List.setIfInBounds_toArray, List.set_cons_zero, List.set_cons_succ])
   have fin := uh st4111 _ wS2 wT2 wR2 x1 hx1 x2 hx2 hx2b x3 hx3 hx3b key hk1 hk2 g hg k hk0 hk3 hh hhb hhr hhw wH
   rw [uh HF] at fin
   exact fin
  ·go_simp
   refine (datum_any wx b a cap l (M + 12) (uh wS) (by omega)).mono ?_
   rintro e wy ⟨val, rfl, hv2, hS, hTT⟩
   have wS2 : Hid (Src wy b a cap l (M + 15)) := Hd (hS.mono (by omega))
   have wT2 : Hid (Touch (fun k => k = b) w wy) := Hd ((uh wT).trans hTT (fun _ _ h => h))
   have wR2 : Hid (Blk wy rb [.int .i64 0, .int .i64 0, .int .i64 0, .string ⟨#[]⟩, .string ⟨#[]⟩]) := Hd ((uh wR).kept hTT hrb)
   have wB2 : Hid (Blk wy g [.int .i64 1, .int .i64 1, .int .i64 2, .int .i64 2, .int .i64 3]) := Hd ((uh wB).kept hTT hg)
   have wH2 : Hid (Blk wy hh [.int .i64 0, .int .i64 0, .int .i64 0, .string ⟨#[]⟩, .string ⟨#[]⟩]) := Hd ((uh wH).kept hTT hhb)
   clear hS hTT wS wT wR
   clear wB
   clear wH
   go_wp2_with fail
   refine hK.out _ _ trivial (fun hHeld => ?_)
   clear hK K
   (try simp only [Act.put, List.getElem_toArray, List.getElem_cons_succ, List.getElem_cons_zero, List.setIfInBounds_toArray, List.set_cons_zero, List.set_cons_succ])
   have fin := uh st5101 _ wS2 wT2 wR2 x1 hx1 x2 hx2 hx2b x3 hx3 hx3b key hk1 hk2 val hv2 g hg wB2 hh hhb hhr hhw wH2
   rw [uh HF] at fin
   exact fin
 have st4001 : Hid (∀ (wx : World) (wS : Hid (Src wx b a cap l (M + 12))) (wT : Hid (Touch (fun k => k = b) w wx)) (wR : Hid (Blk wx rb [.int .i64 0, .int .i64 0, .int .i64 0, .string ⟨#[]⟩, .string ⟨#[]⟩])) (x1 : Nat) (hx1 : x1 < 5) (x2 : Int) (hx2 : 0 ≤ x2) (hx2b : x2 < 3) (x3 : Int) (hx3 : 0 ≤ x3) (hx3b : x3 < 5) (key : ByteArray) (hk1 : 1 ≤ key.size) (hk2 : key.size ≤ 24) (hh : Nat) (hhb : hh ≠ b) (hhr : hh ≠ rb) (hhw : w.heap.size ≤ hh) (wH : Hid (Blk wx hh [.int .i64 0, .int .i64 0, .int .i64 0, .string ⟨#[]⟩, .string ⟨#[]⟩])), F 6 #[false, true, true, false, false, true, true, true, true, true, true, true, true, true, false, false, true, false] ⟨#[.pointer (some ⟨b, 0, none⟩), undef, .pointer (some ⟨rb, 0, none⟩), .pointer (some ⟨hh, 0, none⟩), undef, .pointer (some ⟨b, 0, none⟩), .int .i64 (x1 : Int), undef, undef, .pointer (some ⟨b, 0, none⟩), .int .i64 x2, .int .i64 (1 + x2), .pointer (some ⟨b, 0, none⟩), .int .i64 x3, .int .i64 (1 + x3), .pointer (some ⟨b, 0, none⟩), .string key, .pointer (some ⟨b, 0, none⟩), undef, undef, undef, undef, undef, undef, undef, undef, undef, undef, undef, undef, undef, undef, undef, undef], []⟩ wx) := by
  clear st5111 st5101 st4111
  clear S0 T0 R0
  refine Hd ?_
  intro wx wS wT wR x1 hx1 x2 hx2 hx2b x3 hx3 hx3b key hk1 hk2 hh hhb hhr hhw wH
  rw [uh HF]
  refine rdy2 0 14 rfl rfl (fun K hK => ?_) (fun K hK => ?_)
  ·have wB2 : Hid (Blk (wx.alloc (.cells #[.int .i64 1, .int .i64 1, .int .i64 2, .int .i64 2, .int .i64 3] 3)) wx.heap.size [.int .i64 1, .int .i64 1, .int .i64 2, .int .i64 2, .int .i64 3]) := Hd (Blk.new wx #[.int .i64 1, .int .i64 1, .int .i64 2, .int .i64 2, .int .i64 3] 3 wx.heap.size rfl)
   have wS2 : Hid (Src (wx.alloc (.cells #[.int .i64 1, .int .i64 1, .int .i64 2, .int .i64 2, .int .i64 3] 3)) b a cap l (M + 12)) := Hd ((uh wS).alloc _)
   have wT2 : Hid (Touch (fun k => k = b) w (wx.alloc (.cells #[.int .i64 1, .int .i64 1, .int .i64 2, .int .i64 2, .int .i64 3] 3))) := Hd ((uh wT).alloc _)
   have wR2 : Hid (Blk (wx.alloc (.cells #[.int .i64 1, .int .i64 1, .int .i64 2, .int .i64 2, .int .i64 3] 3)) rb [.int .i64 0, .int .i64 0, .int .i64 0, .string ⟨#[]⟩, .string ⟨#[]⟩]) := Hd ((uh wR).alloc _)
   have hg : wx.heap.size ≠ b := by have := (uh wS).lt; omega
   have wH2 : Hid (Blk (wx.alloc (.cells #[.int .i64 1, .int .i64 1, .int .i64 2, .int .i64 2, .int .i64 3] 3)) hh [.int .i64 0, .int .i64 0, .int .i64 0, .string ⟨#[]⟩, .string ⟨#[]⟩]) := Hd ((uh wH).alloc _)
   clear wH
   clear wS wT wR
   go_simp
   refine hK.out _ _ trivial (fun hHeld => ?_)
   clear hK K
   (try simp only [Act.put, List.getElem_toArray, List.getElem_cons_succ, List.getElem_cons_zero, List.setIfInBounds_toArray, List.set_cons_zero, List.set_cons_succ])
   generalize wx.alloc (.cells #[.int .i64 1, .int .i64 1, .int .i64 2, .int .i64 2, .int .i64 3] 3) = wy at *
   generalize wx.heap.size = g at *
   have hx1i : (x1 : Int) < 5 := by omega
   have hx1j : 0 ≤ (x1 : Int) := by omega
   refine wpAnyH_take (i := 3) (oi := _) (v := ?_) rfl (by kernel_rfl) (by kernel_rfl) (by kernel_rfl) (fun _ _ _ h => h) (Or.inl ⟨by rfl, ?_⟩) trivial ?_
   rotate_left 1
   ·(intro wq hSw; (try simp only [List.getElem_toArray, List.getElem_cons_succ, List.getElem_cons_zero]); go_simp; try with_reducible rfl)
   (try simp only [Act.put, List.getElem_toArray, List.getElem_cons_succ, List.getElem_cons_zero, List.setIfInBounds_toArray, List.set_cons_zero, List.set_cons_succ])
   have fin := uh st4101 _ wS2 wT2 wR2 x1 hx1 x2 hx2 hx2b x3 hx3 hx3b key hk1 hk2 g hg wB2 hh hhb hhr hhw wH2
   rw [uh HF] at fin
   exact fin
  ·go_simp
   refine (datum_any wx b a cap l (M + 12) (uh wS) (by omega)).mono ?_
   rintro e wy ⟨val, rfl, hv2, hS, hTT⟩
   have wS2 : Hid (Src wy b a cap l (M + 15)) := Hd (hS.mono (by omega))
   have wT2 : Hid (Touch (fun k => k = b) w wy) := Hd ((uh wT).trans hTT (fun _ _ h => h))
   have wR2 : Hid (Blk wy rb [.int .i64 0, .int .i64 0, .int .i64 0, .string ⟨#[]⟩, .string ⟨#[]⟩]) := Hd ((uh wR).kept hTT hrb)
   have wH2 : Hid (Blk wy hh [.int .i64 0, .int .i64 0, .int .i64 0, .string ⟨#[]⟩, .string ⟨#[]⟩]) := Hd ((uh wH).kept hTT hhb)
   clear hS hTT wS wT wR
   clear wH
   go_wp2_with fail
   refine hK.out _ _ trivial (fun hHeld => ?_)
   clear hK K
   (try simp only [Act.put, List.getElem_toArray, List.getElem_cons_succ, List.getElem_cons_zero, List.setIfInBounds_toArray, List.set_cons_zero, List.set_cons_succ])
   have fin := uh st5001 _ wS2 wT2 wR2 x1 hx1 x2 hx2 hx2b x3 hx3 hx3b key hk1 hk2 val hv2 hh hhb hhr hhw wH2
   rw [uh HF] at fin
   exact fin
 have st3111 : Hid (∀ (wx : World) (wS : Hid (Src wx b a cap l (M + 9))) (wT : Hid (Touch (fun k => k = b) w wx)) (wR : Hid (Blk wx rb [.int .i64 0, .int .i64 0, .int .i64 0, .string ⟨#[]⟩, .string ⟨#[]⟩])) (x1 : Nat) (hx1 : x1 < 5) (x2 : Int) (hx2 : 0 ≤ x2) (hx2b : x2 < 3) (x3 : Int) (hx3 : 0 ≤ x3) (hx3b : x3 < 5) (g : Nat) (hg : g ≠ b) (k : Int) (hk0 : 1 ≤ k) (hk3 : k ≤ 3) (hh : Nat) (hhb : hh ≠ b) (hhr : hh ≠ rb) (hhw : w.heap.size ≤ hh) (wH : Hid (Blk wx hh [.int .i64 0, .int .i64 0, .int .i64 0, .string ⟨#[]⟩, .string ⟨#[]⟩])), F 4 #[true, true, true, true, true, true, true, true, true, true, true, true, false, true, false, false, true, false] ⟨#[.pointer (some ⟨b, 0, none⟩), undef, .pointer (some ⟨rb, 0, none⟩), .pointer (some ⟨hh, 0, none⟩), .slice (some ⟨g, 0, none⟩) 5 5, .pointer (some ⟨b, 0, none⟩), .int .i64 (x1 : Int), .pointer (some ⟨g, x1, none⟩), .int .i64 k, .pointer (some ⟨b, 0, none⟩), .int .i64 x2, .int .i64 (1 + x2), .pointer (some ⟨b, 0, none⟩), .int .i64 x3, .int .i64 (1 + x3), .pointer (some ⟨b, 0, none⟩), undef, .pointer (some ⟨b, 0, none⟩), undef, undef, undef, undef, undef, undef, undef, undef, undef, undef, undef, undef, undef, undef, undef, undef], []⟩ wx) := by
  clear st5111 st5101 st5001 st4101 st4001
  clear S0 T0 R0
  refine Hd ?_
  intro wx wS wT wR x1 hx1 x2 hx2 hx2b x3 hx3 hx3b g hg k hk0 hk3 hh hhb hhr hhw wH
  rw [uh HF]
  refine rdy1 12 rfl (fun K hK => ?_)
  ·go_simp
   refine (key_any wx b a cap l (M + 9) (uh wS) (by omega)).mono ?_
   rintro e wy ⟨key, rfl, hk1, hk2, hS, hTT⟩
   have wS2 : Hid (Src wy b a cap l (M + 12)) := Hd (hS.mono (by omega))
   have wT2 : Hid (Touch (fun k => k = b) w wy) := Hd ((uh wT).trans hTT (fun _ _ h => h))
   have wR2 : Hid (Blk wy rb [.int .i64 0, .int .i64 0, .int .i64 0, .string ⟨#[]⟩, .string ⟨#[]⟩]) := Hd ((uh wR).kept hTT hrb)
   have wH2 : Hid (Blk wy hh [.int .i64 0, .int .i64 0, .int .i64 0, .string ⟨#[]⟩, .string ⟨#[]⟩]) := Hd ((uh wH).kept hTT hhb)
   clear hS hTT wS wT wR
   clear wH
   go_wp2_with fail
   refine hK.out _ _ trivial (fun hHeld => ?_)
   clear hK K
   (try simp only [Act.put, List.getElem_toArray, List.getElem_cons_succ, List.getElem_cons_zero, List.setIfInBounds_toArray, List.set_cons_zero, List.set_cons_succ])
   have fin := uh st4111 _ wS2 wT2 wR2 x1 hx1 x2 hx2 hx2b x3 hx3 hx3b key hk1 hk2 g hg k hk0 hk3 hh hhb hhr hhw wH2
   rw [uh HF] at fin
   exact fin
 have st3101 : Hid (∀ (wx : World) (wS : Hid (Src wx b a cap l (M + 9))) (wT : Hid (Touch (fun k => k = b) w wx)) (wR : Hid (Blk wx rb [.int .i64 0, .int .i64 0, .int .i64 0, .string ⟨#[]⟩, .string ⟨#[]⟩])) (x1 : Nat) (hx1 : x1 < 5) (x2 : Int) (hx2 : 0 ≤ x2) (hx2b : x2 < 3) (x3 : Int) (hx3 : 0 ≤ x3) (hx3b : x3 < 5) (g : Nat) (hg : g ≠ b) (wB : Hid (Blk wx g [.int .i64 1, .int .i64 1, .int .i64 2, .int .i64 2, .int .i64 3])) (hh : Nat) (hhb : hh ≠ b) (hhr : hh ≠ rb) (hhw : w.heap.size ≤ hh) (wH : Hid (Blk wx hh [.int .i64 0, .int .i64 0, .int .i64 0, .string ⟨#[]⟩, .string ⟨#[]⟩])), F 5 #[true, true, true, true, false, true, true, true, true, true, true, true, false, true, false, false, true, false] ⟨#[.pointer (some ⟨b, 0, none⟩), undef, .pointer (some ⟨rb, 0, none⟩), .pointer (some ⟨hh, 0, none⟩), .slice (some ⟨g, 0, none⟩) 5 5, .pointer (some ⟨b, 0, none⟩), .int .i64 (x1 : Int), .pointer (some ⟨g, x1, none⟩), undef, .pointer (some ⟨b, 0, none⟩), .int .i64 x2, .int .i64 (1 + x2), .pointer (some ⟨b, 0, none⟩), .int .i64 x3, .int .i64 (1 + x3), .pointer (some ⟨b, 0, none⟩), undef, .pointer (some ⟨b, 0, none⟩), undef, undef, undef, undef, undef, undef, undef, undef, undef, undef, undef, undef, undef, undef, undef, undef], []⟩ wx) := by
  clear st5111 st5101 st5001 st4111 st4001
  clear S0 T0 R0
  refine Hd ?_
  intro wx wS wT wR x1 hx1 x2 hx2 hx2b x3 hx3 hx3b g hg wB hh hhb hhr hhw wH
  rw [uh HF]
  refine rdy2 4 12 rfl rfl (fun K hK => ?_) (fun K hK => ?_)
  ·obtain ⟨k, hk0, hk3, hc⟩ : ∃ k : Int, 1 ≤ k ∧ k ≤ 3 ∧ wx.cell? ⟨g, x1, none⟩ = some (.int .i64 k) := by
    have hB := uh wB
    match x1, hx1 with
    | 0, _ => exact ⟨1, by omega, by omega, hB.cell 0 rfl⟩
    | 1, _ => exact ⟨1, by omega, by omega, hB.cell 1 rfl⟩
    | 2, _ => exact ⟨2, by omega, by omega, hB.cell 2 rfl⟩
    | 3, _ => exact ⟨2, by omega, by omega, hB.cell 3 rfl⟩
    | 4, _ => exact ⟨3, by omega, by omega, hB.cell 4 rfl⟩
   clear wB
   have wS2 := wS
   have wT2 := wT
   have wR2 := wR
   go_simp
   refine hK.out _ _ trivial (fun hHeld => ?_)
   clear hK K
   (try simp only [Act.put, List.getElem_toArray, List.getElem_cons_succ, List.getElem_cons_zero, List.setIfInBounds_toArray, List.set_cons_zero, List.set_cons_succ])
   have fin := uh st3111 _ wS2 wT2 wR2 x1 hx1 x2 hx2 hx2b x3 hx3 hx3b g hg k hk0 hk3 hh hhb hhr hhw wH
   rw [uh HF] at fin
   exact fin
  ·go_simp
   refine (key_any wx b a cap l (M + 9) (uh wS) (by omega)).mono ?_
   rintro e wy ⟨key, rfl, hk1, hk2, hS, hTT⟩
   have wS2 : Hid (Src wy b a cap l (M + 12)) := Hd (hS.mono (by omega))
   have wT2 : Hid (Touch (fun k => k = b) w wy) := Hd ((uh wT).trans hTT (fun _ _ h => h))
   have wR2 : Hid (Blk wy rb [.int .i64 0, .int .i64 0, .int .i64 0, .string ⟨#[]⟩, .string ⟨#[]⟩]) := Hd ((uh wR).kept hTT hrb)
   have wB2 : Hid (Blk wy g [.int .i64 1, .int .i64 1, .int .i64 2, .int .i64 2, .int .i64 3]) := Hd ((uh wB).kept hTT hg)
   have wH2 : Hid (Blk wy hh [.int .i64 0, .int .i64 0, .int .i64 0, .string ⟨#[]⟩, .string ⟨#[]⟩]) := Hd ((uh wH).kept hTT hhb)
   clear hS hTT wS wT wR
   clear wB
   clear wH
   go_wp2_with fail
   refine hK.out _ _ trivial (fun hHeld => ?_)
   clear hK K
   (try simp only [Act.put, List.getElem_toArray, List.getElem_cons_succ, List.getElem_cons_zero, List.setIfInBounds_toArray, List.set_cons_zero, List.set_cons_succ])
   have fin := uh st4101 _ wS2 wT2 wR2 x1 hx1 x2 hx2 hx2b x3 hx3 hx3b key hk1 hk2 g hg wB2 hh hhb hhr hhw wH2
   rw [uh HF] at fin
   exact fin
 have st3001 : Hid (∀ (wx : World) (wS : Hid (Src wx b a cap l (M + 9))) (wT : Hid (Touch (fun k => k = b) w wx)) (wR : Hid (Blk wx rb [.int .i64 0, .int .i64 0, .int .i64 0, .string ⟨#[]⟩, .string ⟨#[]⟩])) (x1 : Nat) (hx1 : x1 < 5) (x2 : Int) (hx2 : 0 ≤ x2) (hx2b : x2 < 3) (x3 : Int) (hx3 : 0 ≤ x3) (hx3b : x3 < 5) (hh : Nat) (hhb : hh ≠ b) (hhr : hh ≠ rb) (hhw : w.heap.size ≤ hh) (wH : Hid (Blk wx hh [.int .i64 0, .int .i64 0, .int .i64 0, .string ⟨#[]⟩, .string ⟨#[]⟩])), F 7 #[false, true, true, false, false, true, true, true, true, true, true, true, false, true, false, false, true, false] ⟨#[.pointer (some ⟨b, 0, none⟩), undef, .pointer (some ⟨rb, 0, none⟩), .pointer (some ⟨hh, 0, none⟩), undef, .pointer (some ⟨b, 0, none⟩), .int .i64 (x1 : Int), undef, undef, .pointer (some ⟨b, 0, none⟩), .int .i64 x2, .int .i64 (1 + x2), .pointer (some ⟨b, 0, none⟩), .int .i64 x3, .int .i64 (1 + x3), .pointer (some ⟨b, 0, none⟩), undef, .pointer (some ⟨b, 0, none⟩), undef, undef, undef, undef, undef, undef, undef, undef, undef, undef, undef, undef, undef, undef, undef, undef], []⟩ wx) := by
  clear st5111 st5101 st5001 st4111 st4101 st3111
  clear S0 T0 R0
  refine Hd ?_
  intro wx wS wT wR x1 hx1 x2 hx2 hx2b x3 hx3 hx3b hh hhb hhr hhw wH
  rw [uh HF]
  refine rdy2 0 12 rfl rfl (fun K hK => ?_) (fun K hK => ?_)
  ·have wB2 : Hid (Blk (wx.alloc (.cells #[.int .i64 1, .int .i64 1, .int .i64 2, .int .i64 2, .int .i64 3] 3)) wx.heap.size [.int .i64 1, .int .i64 1, .int .i64 2, .int .i64 2, .int .i64 3]) := Hd (Blk.new wx #[.int .i64 1, .int .i64 1, .int .i64 2, .int .i64 2, .int .i64 3] 3 wx.heap.size rfl)
   have wS2 : Hid (Src (wx.alloc (.cells #[.int .i64 1, .int .i64 1, .int .i64 2, .int .i64 2, .int .i64 3] 3)) b a cap l (M + 9)) := Hd ((uh wS).alloc _)
   have wT2 : Hid (Touch (fun k => k = b) w (wx.alloc (.cells #[.int .i64 1, .int .i64 1, .int .i64 2, .int .i64 2, .int .i64 3] 3))) := Hd ((uh wT).alloc _)
   have wR2 : Hid (Blk (wx.alloc (.cells #[.int .i64 1, .int .i64 1, .int .i64 2, .int .i64 2, .int .i64 3] 3)) rb [.int .i64 0, .int .i64 0, .int .i64 0, .string ⟨#[]⟩, .string ⟨#[]⟩]) := Hd ((uh wR).alloc _)
   have hg : wx.heap.size ≠ b := by have := (uh wS).lt; omega
   have wH2 : Hid (Blk (wx.alloc (.cells #[.int .i64 1, .int .i64 1, .int .i64 2, .int .i64 2, .int .i64 3] 3)) hh [.int .i64 0, .int .i64 0, .int .i64 0, .string ⟨#[]⟩, .string ⟨#[]⟩]) := Hd ((uh wH).alloc _)
   clear wH
   clear wS wT wR
   go_simp
   refine hK.out _ _ trivial (fun hHeld => ?_)
   clear hK K
   (try simp only [Act.put, List.getElem_toArray, List.getElem_cons_succ, List.getElem_cons_zero, List.setIfInBounds_toArray, List.set_cons_zero, List.set_cons_succ])
   generalize wx.alloc (.cells #[.int .i64 1, .int .i64 1, .int .i64 2, .int .i64 2, .int .i64 3] 3) = wy at *
   generalize wx.heap.size = g at *
   have hx1i : (x1 : Int) < 5 := by omega
   have hx1j : 0 ≤ (x1 : Int) := by omega
   refine wpAnyH_take (i := 3) (oi := _) (v := ?_) rfl (by kernel_rfl) (by kernel_rfl) (by kernel_rfl) (fun _ _ _ h => h) (Or.inl ⟨by rfl, ?_⟩) trivial ?_
   rotate_left 1
   ·(intro wq hSw; (try simp only [List.getElem_toArray, List.getElem_cons_succ, List.getElem_cons_zero]); go_simp; try with_reducible rfl)
   (try simp only [Act.put, List.getElem_toArray, List.getElem_cons_succ, List.getElem_cons_zero, List.setIfInBounds_toArray, List.set_cons_zero, List.set_cons_succ])
   have fin := uh st3101 _ wS2 wT2 wR2 x1 hx1 x2 hx2 hx2b x3 hx3 hx3b g hg wB2 hh hhb hhr hhw wH2
   rw [uh HF] at fin
   exact fin
  ·go_simp
   refine (key_any wx b a cap l (M + 9) (uh wS) (by omega)).mono ?_
   rintro e wy ⟨key, rfl, hk1, hk2, hS, hTT⟩
   have wS2 : Hid (Src wy b a cap l (M + 12)) := Hd (hS.mono (by omega))
   have wT2 : Hid (Touch (fun k => k = b) w wy) := Hd ((uh wT).trans hTT (fun _ _ h => h))
   have wR2 : Hid (Blk wy rb [.int .i64 0, .int .i64 0, .int .i64 0, .string ⟨#[]⟩, .string ⟨#[]⟩]) := Hd ((uh wR).kept hTT hrb)
   have wH2 : Hid (Blk wy hh [.int .i64 0, .int .i64 0, .int .i64 0, .string ⟨#[]⟩, .string ⟨#[]⟩]) := Hd ((uh wH).kept hTT hhb)
   clear hS hTT wS wT wR
   clear wH
   go_wp2_with fail
   refine hK.out _ _ trivial (fun hHeld => ?_)
   clear hK K
   (try simp only [Act.put, List.getElem_toArray, List.getElem_cons_succ, List.getElem_cons_zero, List.setIfInBounds_toArray, List.set_cons_zero, List.set_cons_succ])
   have fin := uh st4001 _ wS2 wT2 wR2 x1 hx1 x2 hx2 hx2b x3 hx3 hx3b key hk1 hk2 hh hhb hhr hhw wH2
   rw [uh HF] at fin
   exact fin
 have st2111 : Hid (∀ (wx : World) (wS : Hid (Src wx b a cap l (M + 6))) (wT : Hid (Touch (fun k => k = b) w wx)) (wR : Hid (Blk wx rb [.int .i64 0, .int .i64 0, .int .i64 0, .string ⟨#[]⟩, .string ⟨#[]⟩])) (x1 : Nat) (hx1 : x1 < 5) (x2 : Int) (hx2 : 0 ≤ x2) (hx2b : x2 < 3) (g : Nat) (hg : g ≠ b) (k : Int) (hk0 : 1 ≤ k) (hk3 : k ≤ 3) (hh : Nat) (hhb : hh ≠ b) (hhr : hh ≠ rb) (hhw : w.heap.size ≤ hh) (wH : Hid (Blk wx hh [.int .i64 0, .int .i64 0, .int .i64 0, .string ⟨#[]⟩, .string ⟨#[]⟩])), F 6 #[true, true, true, true, true, true, true, true, true, false, false, true, false, true, false, false, true, false] ⟨#[.pointer (some ⟨b, 0, none⟩), undef, .pointer (some ⟨rb, 0, none⟩), .pointer (some ⟨hh, 0, none⟩), .slice (some ⟨g, 0, none⟩) 5 5, .pointer (some ⟨b, 0, none⟩), .int .i64 (x1 : Int), .pointer (some ⟨g, x1, none⟩), .int .i64 k, .pointer (some ⟨b, 0, none⟩), .int .i64 x2, .int .i64 (1 + x2), .pointer (some ⟨b, 0, none⟩), undef, undef, .pointer (some ⟨b, 0, none⟩), undef, .pointer (some ⟨b, 0, none⟩), undef, undef, undef, undef, undef, undef, undef, undef, undef, undef, undef, undef, undef, undef, undef, undef], []⟩ wx) := by
  clear st5111 st5101 st5001 st4111 st4101 st4001 st3101 st3001
  clear S0 T0 R0
  refine Hd ?_
  intro wx wS wT wR x1 hx1 x2 hx2 hx2b g hg k hk0 hk3 hh hhb hhr hhw wH
  rw [uh HF]
  refine rdy1 9 rfl (fun K hK => ?_)
  ·go_simp
   refine (srcNext_any 5 wx b a cap l (M + 6) (uh wS) (by omega) (by omega) (by omega)).mono ?_
   rintro e wy ⟨x3, rfl, hx3, hx3b, hS, hO⟩
   have wr : IntKind.i64.wrap (1 + x3) = 1 + x3 := wrapS _ (by omega) (by omega)
   have hTT := hO.touch
   have wS2 : Hid (Src wy b a cap l (M + 9)) := Hd (hS.mono (by omega))
   have wT2 : Hid (Touch (fun k => k = b) w wy) := Hd ((uh wT).trans hTT (fun _ _ h => h))
   have wR2 : Hid (Blk wy rb [.int .i64 0, .int .i64 0, .int .i64 0, .string ⟨#[]⟩, .string ⟨#[]⟩]) := Hd ((uh wR).kept hTT hrb)
   have wH2 : Hid (Blk wy hh [.int .i64 0, .int .i64 0, .int .i64 0, .string ⟨#[]⟩, .string ⟨#[]⟩]) := Hd ((uh wH).kept hTT hhb)
   clear hS hTT wS wT wR
   clear wH
   go_wp2_with fail
   refine hK.out _ _ trivial (fun hHeld => ?_)
   clear hK K
   (try simp only [Act.put, List.getElem_toArray, List.getElem_cons_succ, List.getElem_cons_zero, List.setIfInBounds_toArray, List.set_cons_zero, List.set_cons_succ])
   refine wpAnyH_take (i := 10) (oi := _) (v := ?_) rfl (by kernel_rfl) (by kernel_rfl) (by kernel_rfl) (fun _ _ _ h => h) (Or.inl ⟨by rfl, ?_⟩) trivial ?_
   rotate_left 1
   ·(intro wq hSw; (try simp only [List.getElem_toArray, List.getElem_cons_succ, List.getElem_cons_zero]); go_simp; try with_reducible rfl)
   (try simp only [Act.put, List.getElem_toArray, List.getElem_cons_succ, List.getElem_cons_zero, List.setIfInBounds_toArray, List.set_cons_zero, List.set_cons_succ])
   have fin := uh st3111 _ wS2 wT2 wR2 x1 hx1 x2 hx2 hx2b x3 hx3 hx3b g hg k hk0 hk3 hh hhb hhr hhw wH2
   rw [uh HF] at fin
   exact fin
 have st2101 : Hid (∀ (wx : World) (wS : Hid (Src wx b a cap l (M + 6))) (wT : Hid (Touch (fun k => k = b) w wx)) (wR : Hid (Blk wx rb [.int .i64 0, .int .i64 0, .int .i64 0, .string ⟨#[]⟩, .string ⟨#[]⟩])) (x1 : Nat) (hx1 : x1 < 5) (x2 : Int) (hx2 : 0 ≤ x2) (hx2b : x2 < 3) (g : Nat) (hg : g ≠ b) (wB : Hid (Blk wx g [.int .i64 1, .int .i64 1, .int .i64 2, .int .i64 2, .int .i64 3])) (hh : Nat) (hhb : hh ≠ b) (hhr : hh ≠ rb) (hhw : w.heap.size ≤ hh) (wH : Hid (Blk wx hh [.int .i64 0, .int .i64 0, .int .i64 0, .string ⟨#[]⟩, .string ⟨#[]⟩])), F 7 #[true, true, true, true, false, true, true, true, true, false, false, true, false, true, false, false, true, false] ⟨#[.pointer (some ⟨b, 0, none⟩), undef, .pointer (some ⟨rb, 0, none⟩), .pointer (some ⟨hh, 0, none⟩), .slice (some ⟨g, 0, none⟩) 5 5, .pointer (some ⟨b, 0, none⟩), .int .i64 (x1 : Int), .pointer (some ⟨g, x1, none⟩), undef, .pointer (some ⟨b, 0, none⟩), .int .i64 x2, .int .i64 (1 + x2), .pointer (some ⟨b, 0, none⟩), undef, undef, .pointer (some ⟨b, 0, none⟩), undef, .pointer (some ⟨b, 0, none⟩), undef, undef, undef, undef, undef, undef, undef, undef, undef, undef, undef, undef, undef, undef, undef, undef], []⟩ wx) := by
  clear st5111 st5101 st5001 st4111 st4101 st4001 st3111 st3001
  clear S0 T0 R0
  refine Hd ?_
  intro wx wS wT wR x1 hx1 x2 hx2 hx2b g hg wB hh hhb hhr hhw wH
  rw [uh HF]
  refine rdy2 4 9 rfl rfl (fun K hK => ?_) (fun K hK => ?_)
  ·obtain ⟨k, hk0, hk3, hc⟩ : ∃ k : Int, 1 ≤ k ∧ k ≤ 3 ∧ wx.cell? ⟨g, x1, none⟩ = some (.int .i64 k) := by
    have hB := uh wB
    match x1, hx1 with
    | 0, _ => exact ⟨1, by omega, by omega, hB.cell 0 rfl⟩
    | 1, _ => exact ⟨1, by omega, by omega, hB.cell 1 rfl⟩
    | 2, _ => exact ⟨2, by omega, by omega, hB.cell 2 rfl⟩
    | 3, _ => exact ⟨2, by omega, by omega, hB.cell 3 rfl⟩
    | 4, _ => exact ⟨3, by omega, by omega, hB.cell 4 rfl⟩
   clear wB
   have wS2 := wS
   have wT2 := wT
   have wR2 := wR
   go_simp
   refine hK.out _ _ trivial (fun hHeld => ?_)
   clear hK K
   (try simp only [Act.put, List.getElem_toArray, List.getElem_cons_succ, List.getElem_cons_zero, List.setIfInBounds_toArray, List.set_cons_zero, List.set_cons_succ])
   have fin := uh st2111 _ wS2 wT2 wR2 x1 hx1 x2 hx2 hx2b g hg k hk0 hk3 hh hhb hhr hhw wH
   rw [uh HF] at fin
   exact fin
  ·go_simp
   refine (srcNext_any 5 wx b a cap l (M + 6) (uh wS) (by omega) (by omega) (by omega)).mono ?_
   rintro e wy ⟨x3, rfl, hx3, hx3b, hS, hO⟩
   have wr : IntKind.i64.wrap (1 + x3) = 1 + x3 := wrapS _ (by omega) (by omega)
   have hTT := hO.touch
   have wS2 : Hid (Src wy b a cap l (M + 9)) := Hd (hS.mono (by omega))
   have wT2 : Hid (Touch (fun k => k = b) w wy) := Hd ((uh wT).trans hTT (fun _ _ h => h))
   have wR2 : Hid (Blk wy rb [.int .i64 0, .int .i64 0, .int .i64 0, .string ⟨#[]⟩, .string ⟨#[]⟩]) := Hd ((uh wR).kept hTT hrb)
   have wB2 : Hid (Blk wy g [.int .i64 1, .int .i64 1, .int .i64 2, .int .i64 2, .int .i64 3]) := Hd ((uh wB).kept hTT hg)
   have wH2 : Hid (Blk wy hh [.int .i64 0, .int .i64 0, .int .i64 0, .string ⟨#[]⟩, .string ⟨#[]⟩]) := Hd ((uh wH).kept hTT hhb)
   clear hS hTT wS wT wR
   clear wB
   clear wH
   go_wp2_with fail
   refine hK.out _ _ trivial (fun hHeld => ?_)
   clear hK K
   (try simp only [Act.put, List.getElem_toArray, List.getElem_cons_succ, List.getElem_cons_zero, List.setIfInBounds_toArray, List.set_cons_zero, List.set_cons_succ])
   refine wpAnyH_take (i := 10) (oi := _) (v := ?_) rfl (by kernel_rfl) (by kernel_rfl) (by kernel_rfl) (fun _ _ _ h => h) (Or.inl ⟨by rfl, ?_⟩) trivial ?_
   rotate_left 1
   ·(intro wq hSw; (try simp only [List.getElem_toArray, List.getElem_cons_succ, List.getElem_cons_zero]); go_simp; try with_reducible rfl)
   (try simp only [Act.put, List.getElem_toArray, List.getElem_cons_succ, List.getElem_cons_zero, List.setIfInBounds_toArray, List.set_cons_zero, List.set_cons_succ])
   have fin := uh st3101 _ wS2 wT2 wR2 x1 hx1 x2 hx2 hx2b x3 hx3 hx3b g hg wB2 hh hhb hhr hhw wH2
   rw [uh HF] at fin
   exact fin
 have st2001 : Hid (∀ (wx : World) (wS : Hid (Src wx b a cap l (M + 6))) (wT : Hid (Touch (fun k => k = b) w wx)) (wR : Hid (Blk wx rb [.int .i64 0, .int .i64 0, .int .i64 0, .string ⟨#[]⟩, .string ⟨#[]⟩])) (x1 : Nat) (hx1 : x1 < 5) (x2 : Int) (hx2 : 0 ≤ x2) (hx2b : x2 < 3) (hh : Nat) (hhb : hh ≠ b) (hhr : hh ≠ rb) (hhw : w.heap.size ≤ hh) (wH : Hid (Blk wx hh [.int .i64 0, .int .i64 0, .int .i64 0, .string ⟨#[]⟩, .string ⟨#[]⟩])), F 9 #[false, true, true, false, false, true, true, true, true, false, false, true, false, true, false, false, true, false] ⟨#[.pointer (some ⟨b, 0, none⟩), undef, .pointer (some ⟨rb, 0, none⟩), .pointer (some ⟨hh, 0, none⟩), undef, .pointer (some ⟨b, 0, none⟩), .int .i64 (x1 : Int), undef, undef, .pointer (some ⟨b, 0, none⟩), .int .i64 x2, .int .i64 (1 + x2), .pointer (some ⟨b, 0, none⟩), undef, undef, .pointer (some ⟨b, 0, none⟩), undef, .pointer (some ⟨b, 0, none⟩), undef, undef, undef, undef, undef, undef, undef, undef, undef, undef, undef, undef, undef, undef, undef, undef], []⟩ wx) := by
  clear st5111 st5101 st5001 st4111 st4101 st4001 st3111 st3101 st2111
  clear S0 T0 R0
  refine Hd ?_
  intro wx wS wT wR x1 hx1 x2 hx2 hx2b hh hhb hhr hhw wH
  rw [uh HF]
  refine rdy2 0 9 rfl rfl (fun K hK => ?_) (fun K hK => ?_)
  ·have wB2 : Hid (Blk (wx.alloc (.cells #[.int .i64 1, .int .i64 1, .int .i64 2, .int .i64 2, .int .i64 3] 3)) wx.heap.size [.int .i64 1, .int .i64 1, .int .i64 2, .int .i64 2, .int .i64 3]) := Hd (Blk.new wx #[.int .i64 1, .int .i64 1, .int .i64 2, .int .i64 2, .int .i64 3] 3 wx.heap.size rfl)
   have wS2 : Hid (Src (wx.alloc (.cells #[.int .i64 1, .int .i64 1, .int .i64 2, .int .i64 2, .int .i64 3] 3)) b a cap l (M + 6)) := Hd ((uh wS).alloc _)
   have wT2 : Hid (Touch (fun k => k = b) w (wx.alloc (.cells #[.int .i64 1, .int .i64 1, .int .i64 2, .int .i64 2, .int .i64 3] 3))) := Hd ((uh wT).alloc _)
   have wR2 : Hid (Blk (wx.alloc (.cells #[.int .i64 1, .int .i64 1, .int .i64 2, .int .i64 2, .int .i64 3] 3)) rb [.int .i64 0, .int .i64 0, .int .i64 0, .string ⟨#[]⟩, .string ⟨#[]⟩]) := Hd ((uh wR).alloc _)
   have hg : wx.heap.size ≠ b := by have := (uh wS).lt; omega
   have wH2 : Hid (Blk (wx.alloc (.cells #[.int .i64 1, .int .i64 1, .int .i64 2, .int .i64 2, .int .i64 3] 3)) hh [.int .i64 0, .int .i64 0, .int .i64 0, .string ⟨#[]⟩, .string ⟨#[]⟩]) := Hd ((uh wH).alloc _)
   clear wH
   clear wS wT wR
   go_simp
   refine hK.out _ _ trivial (fun hHeld => ?_)
   clear hK K
   (try simp only [Act.put, List.getElem_toArray, List.getElem_cons_succ, List.getElem_cons_zero, List.setIfInBounds_toArray, List.set_cons_zero, List.set_cons_succ])
   generalize wx.alloc (.cells #[.int .i64 1, .int .i64 1, .int .i64 2, .int .i64 2, .int .i64 3] 3) = wy at *
   generalize wx.heap.size = g at *
   have hx1i : (x1 : Int) < 5 := by omega
   have hx1j : 0 ≤ (x1 : Int) := by omega
   refine wpAnyH_take (i := 3) (oi := _) (v := ?_) rfl (by kernel_rfl) (by kernel_rfl) (by kernel_rfl) (fun _ _ _ h => h) (Or.inl ⟨by rfl, ?_⟩) trivial ?_
   rotate_left 1
   ·(intro wq hSw; (try simp only [List.getElem_toArray, List.getElem_cons_succ, List.getElem_cons_zero]); go_simp; try with_reducible rfl)
   (try simp only [Act.put, List.getElem_toArray, List.getElem_cons_succ, List.getElem_cons_zero, List.setIfInBounds_toArray, List.set_cons_zero, List.set_cons_succ])
   have fin := uh st2101 _ wS2 wT2 wR2 x1 hx1 x2 hx2 hx2b g hg wB2 hh hhb hhr hhw wH2
   rw [uh HF] at fin
   exact fin
  ·go_simp
   refine (srcNext_any 5 wx b a cap l (M + 6) (uh wS) (by omega) (by omega) (by omega)).mono ?_
   rintro e wy ⟨x3, rfl, hx3, hx3b, hS, hO⟩
   have wr : IntKind.i64.wrap (1 + x3) = 1 + x3 := wrapS _ (by omega) (by omega)
   have hTT := hO.touch
   have wS2 : Hid (Src wy b a cap l (M + 9)) := Hd (hS.mono (by omega))
   have wT2 : Hid (Touch (fun k => k = b) w wy) := Hd ((uh wT).trans hTT (fun _ _ h => h))
   have wR2 : Hid (Blk wy rb [.int .i64 0, .int .i64 0, .int .i64 0, .string ⟨#[]⟩, .string ⟨#[]⟩]) := Hd ((uh wR).kept hTT hrb)
   have wH2 : Hid (Blk wy hh [.int .i64 0, .int .i64 0, .int .i64 0, .string ⟨#[]⟩, .string ⟨#[]⟩]) := Hd ((uh wH).kept hTT hhb)
   clear hS hTT wS wT wR
   clear wH
   go_wp2_with fail
   refine hK.out _ _ trivial (fun hHeld => ?_)
   clear hK K
   (try simp only [Act.put, List.getElem_toArray, List.getElem_cons_succ, List.getElem_cons_zero, List.setIfInBounds_toArray, List.set_cons_zero, List.set_cons_succ])
   refine wpAnyH_take (i := 10) (oi := _) (v := ?_) rfl (by kernel_rfl) (by kernel_rfl) (by kernel_rfl) (fun _ _ _ h => h) (Or.inl ⟨by rfl, ?_⟩) trivial ?_
   rotate_left 1
   ·(intro wq hSw; (try simp only [List.getElem_toArray, List.getElem_cons_succ, List.getElem_cons_zero]); go_simp; try with_reducible rfl)
   (try simp only [Act.put, List.getElem_toArray, List.getElem_cons_succ, List.getElem_cons_zero, List.setIfInBounds_toArray, List.set_cons_zero, List.set_cons_succ])
   have fin := uh st3001 _ wS2 wT2 wR2 x1 hx1 x2 hx2 hx2b x3 hx3 hx3b hh hhb hhr hhw wH2
   rw [uh HF] at fin
   exact fin
 have st1111 : Hid (∀ (wx : World) (wS : Hid (Src wx b a cap l (M + 3))) (wT : Hid (Touch (fun k => k = b) w wx)) (wR : Hid (Blk wx rb [.int .i64 0, .int .i64 0, .int .i64 0, .string ⟨#[]⟩, .string ⟨#[]⟩])) (x1 : Nat) (hx1 : x1 < 5) (g : Nat) (hg : g ≠ b) (k : Int) (hk0 : 1 ≤ k) (hk3 : k ≤ 3) (hh : Nat) (hhb : hh ≠ b) (hhr : hh ≠ rb) (hhw : w.heap.size ≤ hh) (wH : Hid (Blk wx hh [.int .i64 0, .int .i64 0, .int .i64 0, .string ⟨#[]⟩, .string ⟨#[]⟩])), F 8 #[true, true, true, true, true, true, false, false, true, false, false, true, false, true, false, false, true, false] ⟨#[.pointer (some ⟨b, 0, none⟩), undef, .pointer (some ⟨rb, 0, none⟩), .pointer (some ⟨hh, 0, none⟩), .slice (some ⟨g, 0, none⟩) 5 5, .pointer (some ⟨b, 0, none⟩), .int .i64 (x1 : Int), .pointer (some ⟨g, x1, none⟩), .int .i64 k, .pointer (some ⟨b, 0, none⟩), undef, undef, .pointer (some ⟨b, 0, none⟩), undef, undef, .pointer (some ⟨b, 0, none⟩), undef, .pointer (some ⟨b, 0, none⟩), undef, undef, undef, undef, undef, undef, undef, undef, undef, undef, undef, undef, undef, undef, undef, undef], []⟩ wx) := by
  clear st5111 st5101 st5001 st4111 st4101 st4001 st3111 st3101 st3001 st2101 st2001
  clear S0 T0 R0
  refine Hd ?_
  intro wx wS wT wR x1 hx1 g hg k hk0 hk3 hh hhb hhr hhw wH
  rw [uh HF]
  refine rdy1 6 rfl (fun K hK => ?_)
  ·go_simp
   refine (srcNext_any 3 wx b a cap l (M + 3) (uh wS) (by omega) (by omega) (by omega)).mono ?_
   rintro e wy ⟨x2, rfl, hx2, hx2b, hS, hO⟩
   have wr : IntKind.i64.wrap (1 + x2) = 1 + x2 := wrapS _ (by omega) (by omega)
   have hTT := hO.touch
   have wS2 : Hid (Src wy b a cap l (M + 6)) := Hd (hS.mono (by omega))
   have wT2 : Hid (Touch (fun k => k = b) w wy) := Hd ((uh wT).trans hTT (fun _ _ h => h))
   have wR2 : Hid (Blk wy rb [.int .i64 0, .int .i64 0, .int .i64 0, .string ⟨#[]⟩, .string ⟨#[]⟩]) := Hd ((uh wR).kept hTT hrb)
   have wH2 : Hid (Blk wy hh [.int .i64 0, .int .i64 0, .int .i64 0, .string ⟨#[]⟩, .string ⟨#[]⟩]) := Hd ((uh wH).kept hTT hhb)
   clear hS hTT wS wT wR
   clear wH
   go_wp2_with fail
   refine hK.out _ _ trivial (fun hHeld => ?_)
   clear hK K
   (try simp only [Act.put, List.getElem_toArray, List.getElem_cons_succ, List.getElem_cons_zero, List.setIfInBounds_toArray, List.set_cons_zero, List.set_cons_succ])
   refine wpAnyH_take (i := 7) (oi := _) (v := ?_) rfl (by kernel_rfl) (by kernel_rfl) (by kernel_rfl) (fun _ _ _ h => h) (Or.inl ⟨by rfl, ?_⟩) trivial ?_
   rotate_left 1
   ·(intro wq hSw; (try simp only [List.getElem_toArray, List.getElem_cons_succ, List.getElem_cons_zero]); go_simp; try with_reducible rfl)
   (try simp only [Act.put, List.getElem_toArray, List.getElem_cons_succ, List.getElem_cons_zero, List.setIfInBounds_toArray, List.set_cons_zero, List.set_cons_succ])
   have fin := uh st2111 _ wS2 wT2 wR2 x1 hx1 x2 hx2 hx2b g hg k hk0 hk3 hh hhb hhr hhw wH2
   rw [uh HF] at fin
   exact fin
 have st1101 : Hid (∀ (wx : World) (wS : Hid (Src wx b a cap l (M + 3))) (wT : Hid (Touch (fun k => k = b) w wx)) (wR : Hid (Blk wx rb [.int .i64 0, .int .i64 0, .int .i64 0, .string ⟨#[]⟩, .string ⟨#[]⟩])) (x1 : Nat) (hx1 : x1 < 5) (g : Nat) (hg : g ≠ b) (wB : Hid (Blk wx g [.int .i64 1, .int .i64 1, .int .i64 2, .int .i64 2, .int .i64 3])) (hh : Nat) (hhb : hh ≠ b) (hhr : hh ≠ rb) (hhw : w.heap.size ≤ hh) (wH : Hid (Blk wx hh [.int .i64 0, .int .i64 0, .int .i64 0, .string ⟨#[]⟩, .string ⟨#[]⟩])), F 9 #[true, true, true, true, false, true, false, false, true, false, false, true, false, true, false, false, true, false] ⟨#[.pointer (some ⟨b, 0, none⟩), undef, .pointer (some ⟨rb, 0, none⟩), .pointer (some ⟨hh, 0, none⟩), .slice (some ⟨g, 0, none⟩) 5 5, .pointer (some ⟨b, 0, none⟩), .int .i64 (x1 : Int), .pointer (some ⟨g, x1, none⟩), undef, .pointer (some ⟨b, 0, none⟩), undef, undef, .pointer (some ⟨b, 0, none⟩), undef, undef, .pointer (some ⟨b, 0, none⟩), undef, .pointer (some ⟨b, 0, none⟩), undef, undef, undef, undef, undef, undef, undef, undef, undef, undef, undef, undef, undef, undef, undef, undef], []⟩ wx) := by
  clear st5111 st5101 st5001 st4111 st4101 st4001 st3111 st3101 st3001 st2111 st2001
  clear S0 T0 R0
  refine Hd ?_
  intro wx wS wT wR x1 hx1 g hg wB hh hhb hhr hhw wH
  rw [uh HF]
  refine rdy2 4 6 rfl rfl (fun K hK => ?_) (fun K hK => ?_)
  ·obtain ⟨k, hk0, hk3, hc⟩ : ∃ k : Int, 1 ≤ k ∧ k ≤ 3 ∧ wx.cell? ⟨g, x1, none⟩ = some (.int .i64 k) := by
    have hB := uh wB
    match x1, hx1 with
    | 0, _ => exact ⟨1, by omega, by omega, hB.cell 0 rfl⟩
    | 1, _ => exact ⟨1, by omega, by omega, hB.cell 1 rfl⟩
    | 2, _ => exact ⟨2, by omega, by omega, hB.cell 2 rfl⟩
    | 3, _ => exact ⟨2, by omega, by omega, hB.cell 3 rfl⟩
    | 4, _ => exact ⟨3, by omega, by omega, hB.cell 4 rfl⟩
   clear wB
   have wS2 := wS
   have wT2 := wT
   have wR2 := wR
   go_simp
   refine hK.out _ _ trivial (fun hHeld => ?_)
   clear hK K
   (try simp only [Act.put, List.getElem_toArray, List.getElem_cons_succ, List.getElem_cons_zero, List.setIfInBounds_toArray, List.set_cons_zero, List.set_cons_succ])
   have fin := uh st1111 _ wS2 wT2 wR2 x1 hx1 g hg k hk0 hk3 hh hhb hhr hhw wH
   rw [uh HF] at fin
   exact fin
  ·go_simp
   refine (srcNext_any 3 wx b a cap l (M + 3) (uh wS) (by omega) (by omega) (by omega)).mono ?_
   rintro e wy ⟨x2, rfl, hx2, hx2b, hS, hO⟩
   have wr : IntKind.i64.wrap (1 + x2) = 1 + x2 := wrapS _ (by omega) (by omega)
   have hTT := hO.touch
   have wS2 : Hid (Src wy b a cap l (M + 6)) := Hd (hS.mono (by omega))
   have wT2 : Hid (Touch (fun k => k = b) w wy) := Hd ((uh wT).trans hTT (fun _ _ h => h))
   have wR2 : Hid (Blk wy rb [.int .i64 0, .int .i64 0, .int .i64 0, .string ⟨#[]⟩, .string ⟨#[]⟩]) := Hd ((uh wR).kept hTT hrb)
   have wB2 : Hid (Blk wy g [.int .i64 1, .int .i64 1, .int .i64 2, .int .i64 2, .int .i64 3]) := Hd ((uh wB).kept hTT hg)
   have wH2 : Hid (Blk wy hh [.int .i64 0, .int .i64 0, .int .i64 0, .string ⟨#[]⟩, .string ⟨#[]⟩]) := Hd ((uh wH).kept hTT hhb)
   clear hS hTT wS wT wR
   clear wB
   clear wH
   go_wp2_with fail
   refine hK.out _ _ trivial (fun hHeld => ?_)
   clear hK K
   (try simp only [Act.put, List.getElem_toArray, List.getElem_cons_succ, List.getElem_cons_zero, List.setIfInBounds_toArray, List.set_cons_zero, List.set_cons_succ])
   refine wpAnyH_take (i := 7) (oi := _) (v := ?_) rfl (by kernel_rfl) (by kernel_rfl) (by kernel_rfl) (fun _ _ _ h => h) (Or.inl ⟨by rfl, ?_⟩) trivial ?_
   rotate_left 1
   ·(intro wq hSw; (try simp only [List.getElem_toArray, List.getElem_cons_succ, List.getElem_cons_zero]); go_simp; try with_reducible rfl)
   (try simp only [Act.put, List.getElem_toArray, List.getElem_cons_succ, List.getElem_cons_zero, List.setIfInBounds_toArray, List.set_cons_zero, List.set_cons_succ])
   have fin := uh st2101 _ wS2 wT2 wR2 x1 hx1 x2 hx2 hx2b g hg wB2 hh hhb hhr hhw wH2
   rw [uh HF] at fin
   exact fin
 have st1001 : Hid (∀ (wx : World) (wS : Hid (Src wx b a cap l (M + 3))) (wT : Hid (Touch (fun k => k = b) w wx)) (wR : Hid (Blk wx rb [.int .i64 0, .int .i64 0, .int .i64 0, .string ⟨#[]⟩, .string ⟨#[]⟩])) (x1 : Nat) (hx1 : x1 < 5) (hh : Nat) (hhb : hh ≠ b) (hhr : hh ≠ rb) (hhw : w.heap.size ≤ hh) (wH : Hid (Blk wx hh [.int .i64 0, .int .i64 0, .int .i64 0, .string ⟨#[]⟩, .string ⟨#[]⟩])), F 11 #[false, true, true, false, false, true, false, false, true, false, false, true, false, true, false, false, true, false] ⟨#[.pointer (some ⟨b, 0, none⟩), undef, .pointer (some ⟨rb, 0, none⟩), .pointer (some ⟨hh, 0, none⟩), undef, .pointer (some ⟨b, 0, none⟩), .int .i64 (x1 : Int), undef, undef, .pointer (some ⟨b, 0, none⟩), undef, undef, .pointer (some ⟨b, 0, none⟩), undef, undef, .pointer (some ⟨b, 0, none⟩), undef, .pointer (some ⟨b, 0, none⟩), undef, undef, undef, undef, undef, undef, undef, undef, undef, undef, undef, undef, undef, undef, undef, undef], []⟩ wx) := by
  clear st5111 st5101 st5001 st4111 st4101 st4001 st3111 st3101 st3001 st2111 st2101 st1111
  clear S0 T0 R0
  refine Hd ?_
  intro wx wS wT wR x1 hx1 hh hhb hhr hhw wH
  rw [uh HF]
  refine rdy2 0 6 rfl rfl (fun K hK => ?_) (fun K hK => ?_)
  ·have wB2 : Hid (Blk (wx.alloc (.cells #[.int .i64 1, .int .i64 1, .int .i64 2, .int .i64 2, .int .i64 3] 3)) wx.heap.size [.int .i64 1, .int .i64 1, .int .i64 2, .int .i64 2, .int .i64 3]) := Hd (Blk.new wx #[.int .i64 1, .int .i64 1, .int .i64 2, .int .i64 2, .int .i64 3] 3 wx.heap.size rfl)
   have wS2 : Hid (Src (wx.alloc (.cells #[.int .i64 1, .int .i64 1, .int .i64 2, .int .i64 2, .int .i64 3] 3)) b a cap l (M + 3)) := Hd ((uh wS).alloc _)
   have wT2 : Hid (Touch (fun k => k = b) w (wx.alloc (.cells #[.int .i64 1, .int .i64 1, .int .i64 2, .int .i64 2, .int .i64 3] 3))) := Hd ((uh wT).alloc _)
   have wR2 : Hid (Blk (wx.alloc (.cells #[.int .i64 1, .int .i64 1, .int .i64 2, .int .i64 2, .int .i64 3] 3)) rb [.int .i64 0, .int .i64 0, .int .i64 0, .string ⟨#[]⟩, .string ⟨#[]⟩]) := Hd ((uh wR).alloc _)
   have hg : wx.heap.size ≠ b := by have := (uh wS).lt; omega
   have wH2 : Hid (Blk (wx.alloc (.cells #[.int .i64 1, .int .i64 1, .int .i64 2, .int .i64 2, .int .i64 3] 3)) hh [.int .i64 0, .int .i64 0, .int .i64 0, .string ⟨#[]⟩, .string ⟨#[]⟩]) := Hd ((uh wH).alloc _)
   clear wH
   clear wS wT wR
   go_simp
   refine hK.out _ _ trivial (fun hHeld => ?_)
   clear hK K
   (try simp only [Act.put, List.getElem_toArray, List.getElem_cons_succ, List.getElem_cons_zero, List.setIfInBounds_toArray, List.set_cons_zero, List.set_cons_succ])
   generalize wx.alloc (.cells #[.int .i64 1, .int .i64 1, .int .i64 2, .int .i64 2, .int .i64 3] 3) = wy at *
   generalize wx.heap.size = g at *
   have hx1i : (x1 : Int) < 5 := by omega
   have hx1j : 0 ≤ (x1 : Int) := by omega
   refine wpAnyH_take (i := 3) (oi := _) (v := ?_) rfl (by kernel_rfl) (by kernel_rfl) (by kernel_rfl) (fun _ _ _ h => h) (Or.inl ⟨by rfl, ?_⟩) trivial ?_
   rotate_left 1
   ·(intro wq hSw; (try simp only [List.getElem_toArray, List.getElem_cons_succ, List.getElem_cons_zero]); go_simp; try with_reducible rfl)
   (try simp only [Act.put, List.getElem_toArray, List.getElem_cons_succ, List.getElem_cons_zero, List.setIfInBounds_toArray, List.set_cons_zero, List.set_cons_succ])
   have fin := uh st1101 _ wS2 wT2 wR2 x1 hx1 g hg wB2 hh hhb hhr hhw wH2
   rw [uh HF] at fin
   exact fin
  ·go_simp
   refine (srcNext_any 3 wx b a cap l (M + 3) (uh wS) (by omega) (by omega) (by omega)).mono ?_
   rintro e wy ⟨x2, rfl, hx2, hx2b, hS, hO⟩
   have wr : IntKind.i64.wrap (1 + x2) = 1 + x2 := wrapS _ (by omega) (by omega)
   have hTT := hO.touch
   have wS2 : Hid (Src wy b a cap l (M + 6)) := Hd (hS.mono (by omega))
   have wT2 : Hid (Touch (fun k => k = b) w wy) := Hd ((uh wT).trans hTT (fun _ _ h => h))
   have wR2 : Hid (Blk wy rb [.int .i64 0, .int .i64 0, .int .i64 0, .string ⟨#[]⟩, .string ⟨#[]⟩]) := Hd ((uh wR).kept hTT hrb)
   have wH2 : Hid (Blk wy hh [.int .i64 0, .int .i64 0, .int .i64 0, .string ⟨#[]⟩, .string ⟨#[]⟩]) := Hd ((uh wH).kept hTT hhb)
   clear hS hTT wS wT wR
   clear wH
   go_wp2_with fail
   refine hK.out _ _ trivial (fun hHeld => ?_)
   clear hK K
   (try simp only [Act.put, List.getElem_toArray, List.getElem_cons_succ, List.getElem_cons_zero, List.setIfInBounds_toArray, List.set_cons_zero, List.set_cons_succ])
   refine wpAnyH_take (i := 7) (oi := _) (v := ?_) rfl (by kernel_rfl) (by kernel_rfl) (by kernel_rfl) (fun _ _ _ h => h) (Or.inl ⟨by rfl, ?_⟩) trivial ?_
   rotate_left 1
   ·(intro wq hSw; (try simp only [List.getElem_toArray, List.getElem_cons_succ, List.getElem_cons_zero]); go_simp; try with_reducible rfl)
   (try simp only [Act.put, List.getElem_toArray, List.getElem_cons_succ, List.getElem_cons_zero, List.setIfInBounds_toArray, List.set_cons_zero, List.set_cons_succ])
   have fin := uh st2001 _ wS2 wT2 wR2 x1 hx1 x2 hx2 hx2b hh hhb hhr hhw wH2
   rw [uh HF] at fin
   exact fin
 have st0101 : Hid (∀ (wx : World) (wS : Hid (Src wx b a cap l (M + 0))) (wT : Hid (Touch (fun k => k = b) w wx)) (wR : Hid (Blk wx rb [.int .i64 0, .int .i64 0, .int .i64 0, .string ⟨#[]⟩, .string ⟨#[]⟩])) (g : Nat) (hg : g ≠ b) (wB : Hid (Blk wx g [.int .i64 1, .int .i64 1, .int .i64 2, .int .i64 2, .int .i64 3])) (hh : Nat) (hhb : hh ≠ b) (hhr : hh ≠ rb) (hhw : w.heap.size ≤ hh) (wH : Hid (Blk wx hh [.int .i64 0, .int .i64 0, .int .i64 0, .string ⟨#[]⟩, .string ⟨#[]⟩])), F 11 #[true, true, false, false, false, true, false, false, true, false, false, true, false, true, false, false, true, false] ⟨#[.pointer (some ⟨b, 0, none⟩), undef, .pointer (some ⟨rb, 0, none⟩), .pointer (some ⟨hh, 0, none⟩), .slice (some ⟨g, 0, none⟩) 5 5, .pointer (some ⟨b, 0, none⟩), undef, undef, undef, .pointer (some ⟨b, 0, none⟩), undef, undef, .pointer (some ⟨b, 0, none⟩), undef, undef, .pointer (some ⟨b, 0, none⟩), undef, .pointer (some ⟨b, 0, none⟩), undef, undef, undef, undef, undef, undef, undef, undef, undef, undef, undef, undef, undef, undef, undef, undef], []⟩ wx) := by
  clear st5111 st5101 st5001 st4111 st4101 st4001 st3111 st3101 st3001 st2111 st2101 st2001 st1111 st1001
  clear S0 T0 R0
  refine Hd ?_
  intro wx wS wT wR g hg wB hh hhb hhr hhw wH
  rw [uh HF]
  refine rdy1 2 rfl (fun K hK => ?_)
  ·go_simp
   refine (srcNext_any 5 wx b a cap l (M + 0) (uh wS) (by omega) (by omega) (by omega)).mono ?_
   rintro e wy ⟨y, rfl, hy0, hy1, hS, hO⟩
   obtain ⟨x1, rfl⟩ : ∃ x1 : Nat, y = (x1 : Int) := ⟨y.toNat, by omega⟩
   have hx1 : x1 < 5 := by omega
   have hx1i : (x1 : Int) < 5 := by omega
   have hx1j : 0 ≤ (x1 : Int) := by omega
   have hTT := hO.touch
   have wS2 : Hid (Src wy b a cap l (M + 3)) := Hd (hS.mono (by omega))
   have wT2 : Hid (Touch (fun k => k = b) w wy) := Hd ((uh wT).trans hTT (fun _ _ h => h))
   have wR2 : Hid (Blk wy rb [.int .i64 0, .int .i64 0, .int .i64 0, .string ⟨#[]⟩, .string ⟨#[]⟩]) := Hd ((uh wR).kept hTT hrb)
   have wB2 : Hid (Blk wy g [.int .i64 1, .int .i64 1, .int .i64 2, .int .i64 2, .int .i64 3]) := Hd ((uh wB).kept hTT hg)
   have wH2 : Hid (Blk wy hh [.int .i64 0, .int .i64 0, .int .i64 0, .string ⟨#[]⟩, .string ⟨#[]⟩]) := Hd ((uh wH).kept hTT hhb)
   clear hS hTT wS wT wR
   clear wB
   clear wH
   go_wp2_with fail
   refine hK.out _ _ trivial (fun hHeld => ?_)
   clear hK K
   (try simp only [Act.put, List.getElem_toArray, List.getElem_cons_succ, List.getElem_cons_zero, List.setIfInBounds_toArray, List.set_cons_zero, List.set_cons_succ])
   refine wpAnyH_take (i := 3) (oi := _) (v := ?_) rfl (by kernel_rfl) (by kernel_rfl) (by kernel_rfl) (fun _ _ _ h => h) (Or.inl ⟨by rfl, ?_⟩) trivial ?_
   rotate_left 1
   ·(intro wq hSw; (try simp only [List.getElem_toArray, List.getElem_cons_succ, List.getElem_cons_zero]); go_simp; try with_reducible rfl)
   (try simp only [Act.put, List.getElem_toArray, List.getElem_cons_succ, List.getElem_cons_zero, List.setIfInBounds_toArray, List.set_cons_zero, List.set_cons_succ])
   have fin := uh st1101 _ wS2 wT2 wR2 x1 hx1 g hg wB2 hh hhb hhr hhw wH2
   rw [uh HF] at fin
   exact fin
 have st0001 : Hid (∀ (wx : World) (wS : Hid (Src wx b a cap l (M + 0))) (wT : Hid (Touch (fun k => k = b) w wx)) (wR : Hid (Blk wx rb [.int .i64 0, .int .i64 0, .int .i64 0, .string ⟨#[]⟩, .string ⟨#[]⟩])) (hh : Nat) (hhb : hh ≠ b) (hhr : hh ≠ rb) (hhw : w.heap.size ≤ hh) (wH : Hid (Blk wx hh [.int .i64 0, .int .i64 0, .int .i64 0, .string ⟨#[]⟩, .string ⟨#[]⟩])), F 12 #[false, true, false, false, false, true, false, false, true, false, false, true, false, true, false, false, true, false] ⟨#[.pointer (some ⟨b, 0, none⟩), undef, .pointer (some ⟨rb, 0, none⟩), .pointer (some ⟨hh, 0, none⟩), undef, .pointer (some ⟨b, 0, none⟩), undef, undef, undef, .pointer (some ⟨b, 0, none⟩), undef, undef, .pointer (some ⟨b, 0, none⟩), undef, undef, .pointer (some ⟨b, 0, none⟩), undef, .pointer (some ⟨b, 0, none⟩), undef, undef, undef, undef, undef, undef, undef, undef, undef, undef, undef, undef, undef, undef, undef, undef], []⟩ wx) := by
  clear st5111 st5101 st5001 st4111 st4101 st4001 st3111 st3101 st3001 st2111 st2101 st2001 st1111 st1101
  clear S0 T0 R0
  refine Hd ?_
  intro wx wS wT wR hh hhb hhr hhw wH
  rw [uh HF]
  refine rdy2 0 2 rfl rfl (fun K hK => ?_) (fun K hK => ?_)
  ·have wB2 : Hid (Blk (wx.alloc (.cells #[.int .i64 1, .int .i64 1, .int .i64 2, .int .i64 2, .int .i64 3] 3)) wx.heap.size [.int .i64 1, .int .i64 1, .int .i64 2, .int .i64 2, .int .i64 3]) := Hd (Blk.new wx #[.int .i64 1, .int .i64 1, .int .i64 2, .int .i64 2, .int .i64 3] 3 wx.heap.size rfl)
   have wS2 : Hid (Src (wx.alloc (.cells #[.int .i64 1, .int .i64 1, .int .i64 2, .int .i64 2, .int .i64 3] 3)) b a cap l (M + 0)) := Hd ((uh wS).alloc _)
   have wT2 : Hid (Touch (fun k => k = b) w (wx.alloc (.cells #[.int .i64 1, .int .i64 1, .int .i64 2, .int .i64 2, .int .i64 3] 3))) := Hd ((uh wT).alloc _)
   have wR2 : Hid (Blk (wx.alloc (.cells #[.int .i64 1, .int .i64 1, .int .i64 2, .int .i64 2, .int .i64 3] 3)) rb [.int .i64 0, .int .i64 0, .int .i64 0, .string ⟨#[]⟩, .string ⟨#[]⟩]) := Hd ((uh wR).alloc _)
   have hg : wx.heap.size ≠ b := by have := (uh wS).lt; omega
   have wH2 : Hid (Blk (wx.alloc (.cells #[.int .i64 1, .int .i64 1, .int .i64 2, .int .i64 2, .int .i64 3] 3)) hh [.int .i64 0, .int .i64 0, .int .i64 0, .string ⟨#[]⟩, .string ⟨#[]⟩]) := Hd ((uh wH).alloc _)
   clear wH
   clear wS wT wR
   go_simp
   refine hK.out _ _ trivial (fun hHeld => ?_)
   clear hK K
   (try simp only [Act.put, List.getElem_toArray, List.getElem_cons_succ, List.getElem_cons_zero, List.setIfInBounds_toArray, List.set_cons_zero, List.set_cons_succ])
   generalize wx.alloc (.cells #[.int .i64 1, .int .i64 1, .int .i64 2, .int .i64 2, .int .i64 3] 3) = wy at *
   generalize wx.heap.size = g at *
   have fin := uh st0101 _ wS2 wT2 wR2 g hg wB2 hh hhb hhr hhw wH2
   rw [uh HF] at fin
   exact fin
  ·go_simp
   refine (srcNext_any 5 wx b a cap l (M + 0) (uh wS) (by omega) (by omega) (by omega)).mono ?_
   rintro e wy ⟨y, rfl, hy0, hy1, hS, hO⟩
   obtain ⟨x1, rfl⟩ : ∃ x1 : Nat, y = (x1 : Int) := ⟨y.toNat, by omega⟩
   have hx1 : x1 < 5 := by omega
   have hx1i : (x1 : Int) < 5 := by omega
   have hx1j : 0 ≤ (x1 : Int) := by omega
   have hTT := hO.touch
   have wS2 : Hid (Src wy b a cap l (M + 3)) := Hd (hS.mono (by omega))
   have wT2 : Hid (Touch (fun k => k = b) w wy) := Hd ((uh wT).trans hTT (fun _ _ h => h))
   have wR2 : Hid (Blk wy rb [.int .i64 0, .int .i64 0, .int .i64 0, .string ⟨#[]⟩, .string ⟨#[]⟩]) := Hd ((uh wR).kept hTT hrb)
   have wH2 : Hid (Blk wy hh [.int .i64 0, .int .i64 0, .int .i64 0, .string ⟨#[]⟩, .string ⟨#[]⟩]) := Hd ((uh wH).kept hTT hhb)
   clear hS hTT wS wT wR
   clear wH
   go_wp2_with fail
   refine hK.out _ _ trivial (fun hHeld => ?_)
   clear hK K
   (try simp only [Act.put, List.getElem_toArray, List.getElem_cons_succ, List.getElem_cons_zero, List.setIfInBounds_toArray, List.set_cons_zero, List.set_cons_succ])
   have fin := uh st1001 _ wS2 wT2 wR2 x1 hx1 hh hhb hhr hhw wH2
   rw [uh HF] at fin
   exact fin
 have st5110 : Hid (∀ (wx : World) (wS : Hid (Src wx b a cap l (M + 15))) (wT : Hid (Touch (fun k => k = b) w wx)) (wR : Hid (Blk wx rb [.int .i64 0, .int .i64 0, .int .i64 0, .string ⟨#[]⟩, .string ⟨#[]⟩])) (x1 : Nat) (hx1 : x1 < 5) (x2 : Int) (hx2 : 0 ≤ x2) (hx2b : x2 < 3) (x3 : Int) (hx3 : 0 ≤ x3) (hx3b : x3 < 5) (key : ByteArray) (hk1 : 1 ≤ key.size) (hk2 : key.size ≤ 24) (val : ByteArray) (hv2 : val.size ≤ 60) (g : Nat) (hg : g ≠ b) (k : Int) (hk0 : 1 ≤ k) (hk3 : k ≤ 3), F 2 #[true, true, true, true, true, true, true, true, true, true, true, true, true, true, true, true, false, false] ⟨#[.pointer (some ⟨b, 0, none⟩), undef, .pointer (some ⟨rb, 0, none⟩), undef, .slice (some ⟨g, 0, none⟩) 5 5, .pointer (some ⟨b, 0, none⟩), .int .i64 (x1 : Int), .pointer (some ⟨g, x1, none⟩), .int .i64 k, .pointer (some ⟨b, 0, none⟩), .int .i64 x2, .int .i64 (1 + x2), .pointer (some ⟨b, 0, none⟩), .int .i64 x3, .int .i64 (1 + x3), .pointer (some ⟨b, 0, none⟩), .string key, .pointer (some ⟨b, 0, none⟩), .string val, .agg #[.int .i64 k, .int .i64 (1 + x2), .int .i64 (1 + x3), .string key, .string val], undef, undef, undef, undef, undef, undef, undef, undef, undef, undef, undef, undef, undef, undef], []⟩ wx) := by
  clear st5101 st5001 st4111 st4101 st4001 st3111 st3101 st3001 st2111 st2101 st2001 st1111 st1101 st1001 st0101 st0001
  clear S0 T0 R0
  refine Hd ?_
  intro wx wS wT wR x1 hx1 x2 hx2 hx2b x3 hx3 hx3b key hk1 hk2 val hv2 g hg k hk0 hk3
  rw [uh HF]
  refine rdy1 16 rfl (fun K hK => ?_)
  ·have wH2 : Hid (Blk (wx.alloc (.cells #[.int .i64 0, .int .i64 0, .int .i64 0, .string ⟨#[]⟩, .string ⟨#[]⟩] 31)) wx.heap.size [.int .i64 0, .int .i64 0, .int .i64 0, .string ⟨#[]⟩, .string ⟨#[]⟩]) := Hd (Blk.new wx #[.int .i64 0, .int .i64 0, .int .i64 0, .string ⟨#[]⟩, .string ⟨#[]⟩] 31 wx.heap.size rfl)
   have wS2 : Hid (Src (wx.alloc (.cells #[.int .i64 0, .int .i64 0, .int .i64 0, .string ⟨#[]⟩, .string ⟨#[]⟩] 31)) b a cap l (M + 15)) := Hd ((uh wS).alloc _)
   have wT2 : Hid (Touch (fun k => k = b) w (wx.alloc (.cells #[.int .i64 0, .int .i64 0, .int .i64 0, .string ⟨#[]⟩, .string ⟨#[]⟩] 31))) := Hd ((uh wT).alloc _)
   have wR2 : Hid (Blk (wx.alloc (.cells #[.int .i64 0, .int .i64 0, .int .i64 0, .string ⟨#[]⟩, .string ⟨#[]⟩] 31)) rb [.int .i64 0, .int .i64 0, .int .i64 0, .string ⟨#[]⟩, .string ⟨#[]⟩]) := Hd ((uh wR).alloc _)
   have hhb : wx.heap.size ≠ b := by have := (uh wS).lt; omega
   have hhr : wx.heap.size ≠ rb := by have := (uh wR).1; omega
   have hhw : w.heap.size ≤ wx.heap.size := (uh wT).size
   clear wS wT wR
   go_simp
   refine hK.out _ _ trivial (fun hHeld => ?_)
   clear hK K
   (try simp only [Act.put, List.getElem_toArray, List.getElem_cons_succ, List.getElem_cons_zero, List.setIfInBounds_toArray, List.set_cons_zero, List.set_cons_succ])
   generalize wx.alloc (.cells #[.int .i64 0, .int .i64 0, .int .i64 0, .string ⟨#[]⟩, .string ⟨#[]⟩] 31) = wy at *
   generalize wx.heap.size = hh at *
   have fin := uh st5111 _ wS2 wT2 wR2 x1 hx1 x2 hx2 hx2b x3 hx3 hx3b key hk1 hk2 val hv2 g hg k hk0 hk3 hh hhb hhr hhw wH2
   rw [uh HF] at fin
   exact fin
 have st5100 : Hid (∀ (wx : World) (wS : Hid (Src wx b a cap l (M + 15))) (wT : Hid (Touch (fun k => k = b) w wx)) (wR : Hid (Blk wx rb [.int .i64 0, .int .i64 0, .int .i64 0, .string ⟨#[]⟩, .string ⟨#[]⟩])) (x1 : Nat) (hx1 : x1 < 5) (x2 : Int) (hx2 : 0 ≤ x2) (hx2b : x2 < 3) (x3 : Int) (hx3 : 0 ≤ x3) (hx3b : x3 < 5) (key : ByteArray) (hk1 : 1 ≤ key.size) (hk2 : key.size ≤ 24) (val : ByteArray) (hv2 : val.size ≤ 60) (g : Nat) (hg : g ≠ b) (wB : Hid (Blk wx g [.int .i64 1, .int .i64 1, .int .i64 2, .int .i64 2, .int .i64 3])), F 4 #[true, true, true, true, false, true, true, true, true, true, true, true, true, true, true, false, false, false] ⟨#[.pointer (some ⟨b, 0, none⟩), undef, .pointer (some ⟨rb, 0, none⟩), undef, .slice (some ⟨g, 0, none⟩) 5 5, .pointer (some ⟨b, 0, none⟩), .int .i64 (x1 : Int), .pointer (some ⟨g, x1, none⟩), undef, .pointer (some ⟨b, 0, none⟩), .int .i64 x2, .int .i64 (1 + x2), .pointer (some ⟨b, 0, none⟩), .int .i64 x3, .int .i64 (1 + x3), .pointer (some ⟨b, 0, none⟩), .string key, .pointer (some ⟨b, 0, none⟩), .string val, undef, undef, undef, undef, undef, undef, undef, undef, undef, undef, undef, undef, undef, undef, undef], []⟩ wx) := by
  clear st5111 st5001 st4111 st4101 st4001 st3111 st3101 st3001 st2111 st2101 st2001 st1111 st1101 st1001 st0101 st0001
  clear S0 T0 R0
  refine Hd ?_
  intro wx wS wT wR x1 hx1 x2 hx2 hx2b x3 hx3 hx3b key hk1 hk2 val hv2 g hg wB
  rw [uh HF]
  refine rdy2 4 16 rfl rfl (fun K hK => ?_) (fun K hK => ?_)
  ·obtain ⟨k, hk0, hk3, hc⟩ : ∃ k : Int, 1 ≤ k ∧ k ≤ 3 ∧ wx.cell? ⟨g, x1, none⟩ = some (.int .i64 k) := by
    have hB := uh wB
    match x1, hx1 with
    | 0, _ => exact ⟨1, by omega, by omega, hB.cell 0 rfl⟩
    | 1, _ => exact ⟨1, by omega, by omega, hB.cell 1 rfl⟩
    | 2, _ => exact ⟨2, by omega, by omega, hB.cell 2 rfl⟩
    | 3, _ => exact ⟨2, by omega, by omega, hB.cell 3 rfl⟩
    | 4, _ => exact ⟨3, by omega, by omega, hB.cell 4 rfl⟩
   clear wB
   have wS2 := wS
   have wT2 := wT
   have wR2 := wR
   go_simp
   refine hK.out _ _ trivial (fun hHeld => ?_)
   clear hK K
   (try simp only [Act.put, List.getElem_toArray, List.getElem_cons_succ, List.getElem_cons_zero, List.setIfInBounds_toArray, List.set_cons_zero, List.set_cons_succ])
   refine wpAnyH_take (i := 15) (oi := _) (v := ?_) rfl (by kernel_rfl) (by kernel_rfl) (by kernel_rfl) (fun _ _ _ h => h) (Or.inl ⟨by rfl, ?_⟩) trivial ?_
   rotate_left 1
   ·(intro wq hSw; (try simp only [List.getElem_toArray, List.getElem_cons_succ, List.getElem_cons_zero]); go_simp; try with_reducible rfl)
   (try simp only [Act.put, List.getElem_toArray, List.getElem_cons_succ, List.getElem_cons_zero, List.setIfInBounds_toArray, List.set_cons_zero, List.set_cons_succ])
   have fin := uh st5110 _ wS2 wT2 wR2 x1 hx1 x2 hx2 hx2b x3 hx3 hx3b key hk1 hk2 val hv2 g hg k hk0 hk3
   rw [uh HF] at fin
   exact fin
  ·have wH2 : Hid (Blk (wx.alloc (.cells #[.int .i64 0, .int .i64 0, .int .i64 0, .string ⟨#[]⟩, .string ⟨#[]⟩] 31)) wx.heap.size [.int .i64 0, .int .i64 0, .int .i64 0, .string ⟨#[]⟩, .string ⟨#[]⟩]) := Hd (Blk.new wx #[.int .i64 0, .int .i64 0, .int .i64 0, .string ⟨#[]⟩, .string ⟨#[]⟩] 31 wx.heap.size rfl)
   have wS2 : Hid (Src (wx.alloc (.cells #[.int .i64 0, .int .i64 0, .int .i64 0, .string ⟨#[]⟩, .string ⟨#[]⟩] 31)) b a cap l (M + 15)) := Hd ((uh wS).alloc _)
   have wT2 : Hid (Touch (fun k => k = b) w (wx.alloc (.cells #[.int .i64 0, .int .i64 0, .int .i64 0, .string ⟨#[]⟩, .string ⟨#[]⟩] 31))) := Hd ((uh wT).alloc _)
   have wR2 : Hid (Blk (wx.alloc (.cells #[.int .i64 0, .int .i64 0, .int .i64 0, .string ⟨#[]⟩, .string ⟨#[]⟩] 31)) rb [.int .i64 0, .int .i64 0, .int .i64 0, .string ⟨#[]⟩, .string ⟨#[]⟩]) := Hd ((uh wR).alloc _)
   have hhb : wx.heap.size ≠ b := by have := (uh wS).lt; omega
   have hhr : wx.heap.size ≠ rb := by have := (uh wR).1; omega
   have hhw : w.heap.size ≤ wx.heap.size := (uh wT).size
   have wB2 : Hid (Blk (wx.alloc (.cells #[.int .i64 0, .int .i64 0, .int .i64 0, .string ⟨#[]⟩, .string ⟨#[]⟩] 31)) g [.int .i64 1, .int .i64 1, .int .i64 2, .int .i64 2, .int .i64 3]) := Hd ((uh wB).alloc _)
   clear wB
   clear wS wT wR
   go_simp
   refine hK.out _ _ trivial (fun hHeld => ?_)
   clear hK K
   (try simp only [Act.put, List.getElem_toArray, List.getElem_cons_succ, List.getElem_cons_zero, List.setIfInBounds_toArray, List.set_cons_zero, List.set_cons_succ])
   generalize wx.alloc (.cells #[.int .i64 0, .int .i64 0, .int .i64 0, .string ⟨#[]⟩, .string ⟨#[]⟩] 31) = wy at *
   generalize wx.heap.size = hh at *
   have fin := uh st5101 _ wS2 wT2 wR2 x1 hx1 x2 hx2 hx2b x3 hx3 hx3b key hk1 hk2 val hv2 g hg wB2 hh hhb hhr hhw wH2
   rw [uh HF] at fin
   exact fin
 have st5000 : Hid (∀ (wx : World) (wS : Hid (Src wx b a cap l (M + 15))) (wT : Hid (Touch (fun k => k = b) w wx)) (wR : Hid (Blk wx rb [.int .i64 0, .int .i64 0, .int .i64 0, .string ⟨#[]⟩, .string ⟨#[]⟩])) (x1 : Nat) (hx1 : x1 < 5) (x2 : Int) (hx2 : 0 ≤ x2) (hx2b : x2 < 3) (x3 : Int) (hx3 : 0 ≤ x3) (hx3b : x3 < 5) (key : ByteArray) (hk1 : 1 ≤ key.size) (hk2 : key.size ≤ 24) (val : ByteArray) (hv2 : val.size ≤ 60), F 6 #[false, true, true, false, false, true, true, true, true, true, true, true, true, true, true, false, false, false] ⟨#[.pointer (some ⟨b, 0, none⟩), undef, .pointer (some ⟨rb, 0, none⟩), undef, undef, .pointer (some ⟨b, 0, none⟩), .int .i64 (x1 : Int), undef, undef, .pointer (some ⟨b, 0, none⟩), .int .i64 x2, .int .i64 (1 + x2), .pointer (some ⟨b, 0, none⟩), .int .i64 x3, .int .i64 (1 + x3), .pointer (some ⟨b, 0, none⟩), .string key, .pointer (some ⟨b, 0, none⟩), .string val, undef, undef, undef, undef, undef, undef, undef, undef, undef, undef, undef, undef, undef, undef, undef], []⟩ wx) := by
  clear st5111 st5101 st4111 st4101 st4001 st3111 st3101 st3001 st2111 st2101 st2001 st1111 st1101 st1001 st0101 st0001 st5110
  clear S0 T0 R0
  refine Hd ?_
  intro wx wS wT wR x1 hx1 x2 hx2 hx2b x3 hx3 hx3b key hk1 hk2 val hv2
  rw [uh HF]
  refine rdy2 0 16 rfl rfl (fun K hK => ?_) (fun K hK => ?_)
  ·have wB2 : Hid (Blk (wx.alloc (.cells #[.int .i64 1, .int .i64 1, .int .i64 2, .int .i64 2, .int .i64 3] 3)) wx.heap.size [.int .i64 1, .int .i64 1, .int .i64 2, .int .i64 2, .int .i64 3]) := Hd (Blk.new wx #[.int .i64 1, .int .i64 1, .int .i64 2, .int .i64 2, .int .i64 3] 3 wx.heap.size rfl)
   have wS2 : Hid (Src (wx.alloc (.cells #[.int .i64 1, .int .i64 1, .int .i64 2, .int .i64 2, .int .i64 3] 3)) b a cap l (M + 15)) := Hd ((uh wS).alloc _)
   have wT2 : Hid (Touch (fun k => k = b) w (wx.alloc (.cells #[.int .i64 1, .int .i64 1, .int .i64 2, .int .i64 2, .int .i64 3] 3))) := Hd ((uh wT).alloc _)
   have wR2 : Hid (Blk (wx.alloc (.cells #[.int .i64 1, .int .i64 1, .int .i64 2, .int .i64 2, .int .i64 3] 3)) rb [.int .i64 0, .int .i64 0, .int .i64 0, .string ⟨#[]⟩, .string ⟨#[]⟩]) := Hd ((uh wR).alloc _)
   have hg : wx.heap.size ≠ b := by have := (uh wS).lt; omega
   clear wS wT wR
   go_simp
   refine hK.out _ _ trivial (fun hHeld => ?_)
   clear hK K
   (try simp only [Act.put, List.getElem_toArray, List.getElem_cons_succ, List.getElem_cons_zero, List.setIfInBounds_toArray, List.set_cons_zero, List.set_cons_succ])
   generalize wx.alloc (.cells #[.int .i64 1, .int .i64 1, .int .i64 2, .int .i64 2, .int .i64 3] 3) = wy at *
   generalize wx.heap.size = g at *
   have hx1i : (x1 : Int) < 5 := by omega
   have hx1j : 0 ≤ (x1 : Int) := by omega
   refine wpAnyH_take (i := 3) (oi := _) (v := ?_) rfl (by kernel_rfl) (by kernel_rfl) (by kernel_rfl) (fun _ _ _ h => h) (Or.inl ⟨by rfl, ?_⟩) trivial ?_
   rotate_left 1
   ·(intro wq hSw; (try simp only [List.getElem_toArray, List.getElem_cons_succ, List.getElem_cons_zero]); go_simp; try with_reducible rfl)
   (try simp only [Act.put, List.getElem_toArray, List.getElem_cons_succ, List.getElem_cons_zero, List.setIfInBounds_toArray, List.set_cons_zero, List.set_cons_succ])
   have fin := uh st5100 _ wS2 wT2 wR2 x1 hx1 x2 hx2 hx2b x3 hx3 hx3b key hk1 hk2 val hv2 g hg wB2
   rw [uh HF] at fin
   exact fin
  ·have wH2 : Hid (Blk (wx.alloc (.cells #[.int .i64 0, .int .i64 0, .int .i64 0, .string ⟨#[]⟩, .string ⟨#[]⟩] 31)) wx.heap.size [.int .i64 0, .int .i64 0, .int .i64 0, .string ⟨#[]⟩, .string ⟨#[]⟩]) := Hd (Blk.new wx #[.int .i64 0, .int .i64 0, .int .i64 0, .string ⟨#[]⟩, .string ⟨#[]⟩] 31 wx.heap.size rfl)
   have wS2 : Hid (Src (wx.alloc (.cells #[.int .i64 0, .int .i64 0, .int .i64 0, .string ⟨#[]⟩, .string ⟨#[]⟩] 31)) b a cap l (M + 15)) := Hd ((uh wS).alloc _)
   have wT2 : Hid (Touch (fun k => k = b) w (wx.alloc (.cells #[.int .i64 0, .int .i64 0, .int .i64 0, .string ⟨#[]⟩, .string ⟨#[]⟩] 31))) := Hd ((uh wT).alloc _)
   have wR2 : Hid (Blk (wx.alloc (.cells #[.int .i64 0, .int .i64 0, .int .i64 0, .string ⟨#[]⟩, .string ⟨#[]⟩] 31)) rb [.int .i64 0, .int .i64 0, .int .i64 0, .string ⟨#[]⟩, .string ⟨#[]⟩]) := Hd ((uh wR).alloc _)
   have hhb : wx.heap.size ≠ b := by have := (uh wS).lt; omega
   have hhr : wx.heap.size ≠ rb := by have := (uh wR).1; omega
   have hhw : w.heap.size ≤ wx.heap.size := (uh wT).size
   clear wS wT wR
   go_simp
   refine hK.out _ _ trivial (fun hHeld => ?_)
   clear hK K
   (try simp only [Act.put, List.getElem_toArray, List.getElem_cons_succ, List.getElem_cons_zero, List.setIfInBounds_toArray, List.set_cons_zero, List.set_cons_succ])
   generalize wx.alloc (.cells #[.int .i64 0, .int .i64 0, .int .i64 0, .string ⟨#[]⟩, .string ⟨#[]⟩] 31) = wy at *
   generalize wx.heap.size = hh at *
   have fin := uh st5001 _ wS2 wT2 wR2 x1 hx1 x2 hx2 hx2b x3 hx3 hx3b key hk1 hk2 val hv2 hh hhb hhr hhw wH2
   rw [uh HF] at fin
   exact fin
 have st4110 : Hid (∀ (wx : World) (wS : Hid (Src wx b a cap l (M + 12))) (wT : Hid (Touch (fun k => k = b) w wx)) (wR : Hid (Blk wx rb [.int .i64 0, .int .i64 0, .int .i64 0, .string ⟨#[]⟩, .string ⟨#[]⟩])) (x1 : Nat) (hx1 : x1 < 5) (x2 : Int) (hx2 : 0 ≤ x2) (hx2b : x2 < 3) (x3 : Int) (hx3 : 0 ≤ x3) (hx3b : x3 < 5) (key : ByteArray) (hk1 : 1 ≤ key.size) (hk2 : key.size ≤ 24) (g : Nat) (hg : g ≠ b) (k : Int) (hk0 : 1 ≤ k) (hk3 : k ≤ 3), F 4 #[true, true, true, true, true, true, true, true, true, true, true, true, true, true, false, false, false, false] ⟨#[.pointer (some ⟨b, 0, none⟩), undef, .pointer (some ⟨rb, 0, none⟩), undef, .slice (some ⟨g, 0, none⟩) 5 5, .pointer (some ⟨b, 0, none⟩), .int .i64 (x1 : Int), .pointer (some ⟨g, x1, none⟩), .int .i64 k, .pointer (some ⟨b, 0, none⟩), .int .i64 x2, .int .i64 (1 + x2), .pointer (some ⟨b, 0, none⟩), .int .i64 x3, .int .i64 (1 + x3), .pointer (some ⟨b, 0, none⟩), .string key, .pointer (some ⟨b, 0, none⟩), undef, undef, undef, undef, undef, undef, undef, undef, undef, undef, undef, undef, undef, undef, undef, undef], []⟩ wx) := by
  clear st5111 st5101 st5001 st4101 st4001 st3111 st3101 st3001 st2111 st2101 st2001 st1111 st1101 st1001 st0101 st0001 st5100 st5000
  clear S0 T0 R0
  refine Hd ?_
  intro wx wS wT wR x1 hx1 x2 hx2 hx2b x3 hx3 hx3b key hk1 hk2 g hg k hk0 hk3
  rw [uh HF]
  refine rdy2 14 16 rfl rfl (fun K hK => ?_) (fun K hK => ?_)
  ·go_simp
   refine (datum_any wx b a cap l (M + 12) (uh wS) (by omega)).mono ?_
   rintro e wy ⟨val, rfl, hv2, hS, hTT⟩
   have wS2 : Hid (Src wy b a cap l (M + 15)) := Hd (hS.mono (by omega))
   have wT2 : Hid (Touch (fun k => k = b) w wy) := Hd ((uh wT).trans hTT (fun _ _ h => h))
   have wR2 : Hid (Blk wy rb [.int .i64 0, .int .i64 0, .int .i64 0, .string ⟨#[]⟩, .string ⟨#[]⟩]) := Hd ((uh wR).kept hTT hrb)
   clear hS hTT wS wT wR
   go_wp2_with fail
   refine hK.out _ _ trivial (fun hHeld => ?_)
   clear hK K
   (try simp only [Act.put, List.getElem_toArray, List.getElem_cons_succ, List.getElem_cons_zero, List.setIfInBounds_toArray, List.set_cons_zero, List.set_cons_succ])
   refine wpAnyH_take (i := 15) (oi := _) (v := ?_) rfl (by kernel_rfl) (by kernel_rfl) (by kernel_rfl) (fun _ _ _ h => h) (Or.inl ⟨by rfl, ?_⟩) trivial ?_
   rotate_left 1
   ·(intro wq hSw; (try simp only [List.getElem_toArray, List.getElem_cons_succ, List.getElem_cons_zero]); go_simp; try with_reducible rfl)
   (try simp only [Act.put, List.getElem_toArray, List.getElem_cons_succ, List.getElem_cons_zero, List.setIfInBounds_toArray, List.set_cons_zero, List.set_cons_succ])
   have fin := uh st5110 _ wS2 wT2 wR2 x1 hx1 x2 hx2 hx2b x3 hx3 hx3b key hk1 hk2 val hv2 g hg k hk0 hk3
   rw [uh HF] at fin
   exact fin
  ·have wH2 : Hid (Blk (wx.alloc (.cells #[.int .i64 0, .int .i64 0, .int .i64 0, .string ⟨#[]⟩, .string ⟨#[]⟩] 31)) wx.heap.size [.int .i64 0, .int .i64 0, .int .i64 0, .string ⟨#[]⟩, .string ⟨#[]⟩]) := Hd (Blk.new wx #[.int .i64 0, .int .i64 0, .int .i64 0, .string ⟨#[]⟩, .string ⟨#[]⟩] 31 wx.heap.size rfl)
   have wS2 : Hid (Src (wx.alloc (.cells #[.int .i64 0, .int .i64 0, .int .i64 0, .string ⟨#[]⟩, .string ⟨#[]⟩] 31)) b a cap l (M + 12)) := Hd ((uh wS).alloc _)
   have wT2 : Hid (Touch (fun k => k = b) w (wx.alloc (.cells #[.int .i64 0, .int .i64 0, .int .i64 0, .string ⟨#[]⟩, .string ⟨#[]⟩] 31))) := Hd ((uh wT).alloc _)
   have wR2 : Hid (Blk (wx.alloc (.cells #[.int .i64 0, .int .i64 0, .int .i64 0, .string ⟨#[]⟩, .string ⟨#[]⟩] 31)) rb [.int .i64 0, .int .i64 0, .int .i64 0, .string ⟨#[]⟩, .string ⟨#[]⟩]) := Hd ((uh wR).alloc _)
   have hhb : wx.heap.size ≠ b := by have := (uh wS).lt; omega
   have hhr : wx.heap.size ≠ rb := by have := (uh wR).1; omega
   have hhw : w.heap.size ≤ wx.heap.size := (uh wT).size
   clear wS wT wR
   go_simp
   refine hK.out _ _ trivial (fun hHeld => ?_)
   clear hK K
   (try simp only [Act.put, List.getElem_toArray, List.getElem_cons_succ, List.getElem_cons_zero, List.setIfInBounds_toArray, List.set_cons_zero, List.set_cons_succ])
   generalize wx.alloc (.cells #[.int .i64 0, .int .i64 0, .int .i64 0, .string ⟨#[]⟩, .string ⟨#[]⟩] 31) = wy at *
   generalize wx.heap.size = hh at *
   have fin := uh st4111 _ wS2 wT2 wR2 x1 hx1 x2 hx2 hx2b x3 hx3 hx3b key hk1 hk2 g hg k hk0 hk3 hh hhb hhr hhw wH2
   rw [uh HF] at fin
   exact fin
 have st4100 : Hid (∀ (wx : World) (wS : Hid (Src wx b a cap l (M + 12))) (wT : Hid (Touch (fun k => k = b) w wx)) (wR : Hid (Blk wx rb [.int .i64 0, .int .i64 0, .int .i64 0, .string ⟨#[]⟩, .string ⟨#[]⟩])) (x1 : Nat) (hx1 : x1 < 5) (x2 : Int) (hx2 : 0 ≤ x2) (hx2b : x2 < 3) (x3 : Int) (hx3 : 0 ≤ x3) (hx3b : x3 < 5) (key : ByteArray) (hk1 : 1 ≤ key.size) (hk2 : key.size ≤ 24) (g : Nat) (hg : g ≠ b) (wB : Hid (Blk wx g [.int .i64 1, .int .i64 1, .int .i64 2, .int .i64 2, .int .i64 3])), F 5 #[true, true, true, true, false, true, true, true, true, true, true, true, true, true, false, false, false, false] ⟨#[.pointer (some ⟨b, 0, none⟩), undef, .pointer (some ⟨rb, 0, none⟩), undef, .slice (some ⟨g, 0, none⟩) 5 5, .pointer (some ⟨b, 0, none⟩), .int .i64 (x1 : Int), .pointer (some ⟨g, x1, none⟩), undef, .pointer (some ⟨b, 0, none⟩), .int .i64 x2, .int .i64 (1 + x2), .pointer (some ⟨b, 0, none⟩), .int .i64 x3, .int .i64 (1 + x3), .pointer (some ⟨b, 0, none⟩), .string key, .pointer (some ⟨b, 0, none⟩), undef, undef, undef, undef, undef, undef, undef, undef, undef, undef, undef, undef, undef, undef, undef, undef], []⟩ wx) := by
  clear st5111 st5101 st5001 st4111 st4001 st3111 st3101 st3001 st2111 st2101 st2001 st1111 st1101 st1001 st0101 st0001 st5110 st5000
  clear S0 T0 R0
  refine Hd ?_
  intro wx wS wT wR x1 hx1 x2 hx2 hx2b x3 hx3 hx3b key hk1 hk2 g hg wB
  rw [uh HF]
  refine rdy3 4 14 16 rfl rfl rfl (fun K hK => ?_) (fun K hK => ?_) (fun K hK => ?_)
  ·obtain ⟨k, hk0, hk3, hc⟩ : ∃ k : Int, 1 ≤ k ∧ k ≤ 3 ∧ wx.cell? ⟨g, x1, none⟩ = some (.int .i64 k) := by
    have hB := uh wB
    match x1, hx1 with
    | 0, _ => exact ⟨1, by omega, by omega, hB.cell 0 rfl⟩
    | 1, _ => exact ⟨1, by omega, by omega, hB.cell 1 rfl⟩
    | 2, _ => exact ⟨2, by omega, by omega, hB.cell 2 rfl⟩
    | 3, _ => exact ⟨2, by omega, by omega, hB.cell 3 rfl⟩
    | 4, _ => exact ⟨3, by omega, by omega, hB.cell 4 rfl⟩
   clear wB
   have wS2 := wS
   have wT2 := wT
   have wR2 := wR
   go_simp
   refine hK.out _ _ trivial (fun hHeld => ?_)
   clear hK K
   (try simp only [Act.put, List.getElem_toArray, List.getElem_cons_succ, List.getElem_cons_zero, List.setIfInBounds_toArray, List.set_cons_zero, List.set_cons_succ])
   have fin := uh st4110 _ wS2 wT2 wR2 x1 hx1 x2 hx2 hx2b x3 hx3 hx3b key hk1 hk2 g hg k hk0 hk3
   rw [uh HF] at fin
   exact fin
  ·go_simp
   refine (datum_any wx b a cap l (M + 12) (uh wS) (by omega)).mono ?_
   rintro e wy ⟨val, rfl, hv2, hS, hTT⟩
   have wS2 : Hid (Src wy b a cap l (M + 15)) := Hd (hS.mono (by omega))
   have wT2 : Hid (Touch (fun k => k = b) w wy) := Hd ((uh wT).trans hTT (fun _ _ h => h))
   have wR2 : Hid (Blk wy rb [.int .i64 0, .int .i64 0, .int .i64 0, .string ⟨#[]⟩, .string ⟨#[]⟩]) := Hd ((uh wR).kept hTT hrb)
   have wB2 : Hid (Blk wy g [.int .i64 1, .int .i64 1, .int .i64 2, .int .i64 2, .int .i64 3]) := Hd ((uh wB).kept hTT hg)
   clear hS hTT wS wT wR
   clear wB
   go_wp2_with fail
   refine hK.out _ _ trivial (fun hHeld => ?_)
   clear hK K
   (try simp only [Act.put, List.getElem_toArray, List.getElem_cons_succ, List.getElem_cons_zero, List.setIfInBounds_toArray, List.set_cons_zero, List.set_cons_succ])
   have fin := uh st5100 _ wS2 wT2 wR2 x1 hx1 x2 hx2 hx2b x3 hx3 hx3b key hk1 hk2 val hv2 g hg wB2
   rw [uh HF] at fin
   exact fin
  ·have wH2 : Hid (Blk (wx.alloc (.cells #[.int .i64 0, .int .i64 0, .int .i64 0, .string ⟨#[]⟩, .string ⟨#[]⟩] 31)) wx.heap.size [.int .i64 0, .int .i64 0, .int .i64 0, .string ⟨#[]⟩, .string ⟨#[]⟩]) := Hd (Blk.new wx #[.int .i64 0, .int .i64 0, .int .i64 0, .string ⟨#[]⟩, .string ⟨#[]⟩] 31 wx.heap.size rfl)
   have wS2 : Hid (Src (wx.alloc (.cells #[.int .i64 0, .int .i64 0, .int .i64 0, .string ⟨#[]⟩, .string ⟨#[]⟩] 31)) b a cap l (M + 12)) := Hd ((uh wS).alloc _)
   have wT2 : Hid (Touch (fun k => k = b) w (wx.alloc (.cells #[.int .i64 0, .int .i64 0, .int .i64 0, .string ⟨#[]⟩, .string ⟨#[]⟩] 31))) := Hd ((uh wT).alloc _)
   have wR2 : Hid (Blk (wx.alloc (.cells #[.int .i64 0, .int .i64 0, .int .i64 0, .string ⟨#[]⟩, .string ⟨#[]⟩] 31)) rb [.int .i64 0, .int .i64 0, .int .i64 0, .string ⟨#[]⟩, .string ⟨#[]⟩]) := Hd ((uh wR).alloc _)
   have hhb : wx.heap.size ≠ b := by have := (uh wS).lt; omega
   have hhr : wx.heap.size ≠ rb := by have := (uh wR).1; omega
   have hhw : w.heap.size ≤ wx.heap.size := (uh wT).size
   have wB2 : Hid (Blk (wx.alloc (.cells #[.int .i64 0, .int .i64 0, .int .i64 0, .string ⟨#[]⟩, .string ⟨#[]⟩] 31)) g [.int .i64 1, .int .i64 1, .int .i64 2, .int .i64 2, .int .i64 3]) := Hd ((uh wB).alloc _)
   clear wB
   clear wS wT wR
   go_simp
   refine hK.out _ _ trivial (fun hHeld => ?_)
   clear hK K
   (try simp only [Act.put, List.getElem_toArray, List.getElem_cons_succ, List.getElem_cons_zero, List.setIfInBounds_toArray, List.set_cons_zero, List.set_cons_succ])
   generalize wx.alloc (.cells #[.int .i64 0, .int .i64 0, .int .i64 0, .string ⟨#[]⟩, .string ⟨#[]⟩] 31) = wy at *
   generalize wx.heap.size = hh at *
   have fin := uh st4101 _ wS2 wT2 wR2 x1 hx1 x2 hx2 hx2b x3 hx3 hx3b key hk1 hk2 g hg wB2 hh hhb hhr hhw wH2
   rw [uh HF] at fin
   exact fin
 have st4000 : Hid (∀ (wx : World) (wS : Hid (Src wx b a cap l (M + 12))) (wT : Hid (Touch (fun k => k = b) w wx)) (wR : Hid (Blk wx rb [.int .i64 0, .int .i64 0, .int .i64 0, .string ⟨#[]⟩, .string ⟨#[]⟩])) (x1 : Nat) (hx1 : x1 < 5) (x2 : Int) (hx2 : 0 ≤ x2) (hx2b : x2 < 3) (x3 : Int) (hx3 : 0 ≤ x3) (hx3b : x3 < 5) (key : ByteArray) (hk1 : 1 ≤ key.size) (hk2 : key.size ≤ 24), F 7 #[false, true, true, false, false, true, true, true, true, true, true, true, true, true, false, false, false, false] ⟨#[.pointer (some ⟨b, 0, none⟩), undef, .pointer (some ⟨rb, 0, none⟩), undef, undef, .pointer (some ⟨b, 0, none⟩), .int .i64 (x1 : Int), undef, undef, .pointer (some ⟨b, 0, none⟩), .int .i64 x2, .int .i64 (1 + x2), .pointer (some ⟨b, 0, none⟩), .int .i64 x3, .int .i64 (1 + x3), .pointer (some ⟨b, 0, none⟩), .string key, .pointer (some ⟨b, 0, none⟩), undef, undef, undef, undef, undef, undef, undef, undef, undef, undef, undef, undef, undef, undef, undef, undef], []⟩ wx) := by
  clear st5111 st5101 st5001 st4111 st4101 st3111 st3101 st3001 st2111 st2101 st2001 st1111 st1101 st1001 st0101 st0001 st5110 st5100 st4110
  clear S0 T0 R0
  refine Hd ?_
  intro wx wS wT wR x1 hx1 x2 hx2 hx2b x3 hx3 hx3b key hk1 hk2
  rw [uh HF]
  refine rdy3 0 14 16 rfl rfl rfl (fun K hK => ?_) (fun K hK => ?_) (fun K hK => ?_)
  ·have wB2 : Hid (Blk (wx.alloc (.cells #[.int .i64 1, .int .i64 1, .int .i64 2, .int .i64 2, .int .i64 3] 3)) wx.heap.size [.int .i64 1, .int .i64 1, .int .i64 2, .int .i64 2, .int .i64 3]) := Hd (Blk.new wx #[.int .i64 1, .int .i64 1, .int .i64 2, .int .i64 2, .int .i64 3] 3 wx.heap.size rfl)
   have wS2 : Hid (Src (wx.alloc (.cells #[.int .i64 1, .int .i64 1, .int .i64 2, .int .i64 2, .int .i64 3] 3)) b a cap l (M + 12)) := Hd ((uh wS).alloc _)
   have wT2 : Hid (Touch (fun k => k = b) w (wx.alloc (.cells #[.int .i64 1, .int .i64 1, .int .i64 2, .int .i64 2, .int .i64 3] 3))) := Hd ((uh wT).alloc _)
   have wR2 : Hid (Blk (wx.alloc (.cells #[.int .i64 1, .int .i64 1, .int .i64 2, .int .i64 2, .int .i64 3] 3)) rb [.int .i64 0, .int .i64 0, .int .i64 0, .string ⟨#[]⟩, .string ⟨#[]⟩]) := Hd ((uh wR).alloc _)
   have hg : wx.heap.size ≠ b := by have := (uh wS).lt; omega
   clear wS wT wR
   go_simp
   refine hK.out _ _ trivial (fun hHeld => ?_)
   clear hK K
   (try simp only [Act.put, List.getElem_toArray, List.getElem_cons_succ, List.getElem_cons_zero, List.setIfInBounds_toArray, List.set_cons_zero, List.set_cons_succ])
   generalize wx.alloc (.cells #[.int .i64 1, .int .i64 1, .int .i64 2, .int .i64 2, .int .i64 3] 3) = wy at *
   generalize wx.heap.size = g at *
   have hx1i : (x1 : Int) < 5 := by omega
   have hx1j : 0 ≤ (x1 : Int) := by omega
   refine wpAnyH_take (i := 3) (oi := _) (v := ?_) rfl (by kernel_rfl) (by kernel_rfl) (by kernel_rfl) (fun _ _ _ h => h) (Or.inl ⟨by rfl, ?_⟩) trivial ?_
   rotate_left 1
   ·(intro wq hSw; (try simp only [List.getElem_toArray, List.getElem_cons_succ, List.getElem_cons_zero]); go_simp; try with_reducible rfl)
   (try simp only [Act.put, List.getElem_toArray, List.getElem_cons_succ, List.getElem_cons_zero, List.setIfInBounds_toArray, List.set_cons_zero, List.set_cons_succ])
   have fin := uh st4100 _ wS2 wT2 wR2 x1 hx1 x2 hx2 hx2b x3 hx3 hx3b key hk1 hk2 g hg wB2
   rw [uh HF] at fin
   exact fin
  ·go_simp
   refine (datum_any wx b a cap l (M + 12) (uh wS) (by omega)).mono ?_
   rintro e wy ⟨val, rfl, hv2, hS, hTT⟩
   have wS2 : Hid (Src wy b a cap l (M + 15)) := Hd (hS.mono (by omega))
   have wT2 : Hid (Touch (fun k => k = b) w wy) := Hd ((uh wT).trans hTT (fun _ _ h => h))
   have wR2 : Hid (Blk wy rb [.int .i64 0, .int .i64 0, .int .i64 0, .string ⟨#[]⟩, .string ⟨#[]⟩]) := Hd ((uh wR).kept hTT hrb)
   clear hS hTT wS wT wR
   go_wp2_with fail
   refine hK.out _ _ trivial (fun hHeld => ?_)
   clear hK K
   (try simp only [Act.put, List.getElem_toArray, List.getElem_cons_succ, List.getElem_cons_zero, List.setIfInBounds_toArray, List.set_cons_zero, List.set_cons_succ])
   have fin := uh st5000 _ wS2 wT2 wR2 x1 hx1 x2 hx2 hx2b x3 hx3 hx3b key hk1 hk2 val hv2
   rw [uh HF] at fin
   exact fin
  ·have wH2 : Hid (Blk (wx.alloc (.cells #[.int .i64 0, .int .i64 0, .int .i64 0, .string ⟨#[]⟩, .string ⟨#[]⟩] 31)) wx.heap.size [.int .i64 0, .int .i64 0, .int .i64 0, .string ⟨#[]⟩, .string ⟨#[]⟩]) := Hd (Blk.new wx #[.int .i64 0, .int .i64 0, .int .i64 0, .string ⟨#[]⟩, .string ⟨#[]⟩] 31 wx.heap.size rfl)
   have wS2 : Hid (Src (wx.alloc (.cells #[.int .i64 0, .int .i64 0, .int .i64 0, .string ⟨#[]⟩, .string ⟨#[]⟩] 31)) b a cap l (M + 12)) := Hd ((uh wS).alloc _)
   have wT2 : Hid (Touch (fun k => k = b) w (wx.alloc (.cells #[.int .i64 0, .int .i64 0, .int .i64 0, .string ⟨#[]⟩, .string ⟨#[]⟩] 31))) := Hd ((uh wT).alloc _)
   have wR2 : Hid (Blk (wx.alloc (.cells #[.int .i64 0, .int .i64 0, .int .i64 0, .string ⟨#[]⟩, .string ⟨#[]⟩] 31)) rb [.int .i64 0, .int .i64 0, .int .i64 0, .string ⟨#[]⟩, .string ⟨#[]⟩]) := Hd ((uh wR).alloc _)
   have hhb : wx.heap.size ≠ b := by have := (uh wS).lt; omega
   have hhr : wx.heap.size ≠ rb := by have := (uh wR).1; omega
   have hhw : w.heap.size ≤ wx.heap.size := (uh wT).size
   clear wS wT wR
   go_simp
   refine hK.out _ _ trivial (fun hHeld => ?_)
   clear hK K
   (try simp only [Act.put, List.getElem_toArray, List.getElem_cons_succ, List.getElem_cons_zero, List.setIfInBounds_toArray, List.set_cons_zero, List.set_cons_succ])
   generalize wx.alloc (.cells #[.int .i64 0, .int .i64 0, .int .i64 0, .string ⟨#[]⟩, .string ⟨#[]⟩] 31) = wy at *
   generalize wx.heap.size = hh at *
   have fin := uh st4001 _ wS2 wT2 wR2 x1 hx1 x2 hx2 hx2b x3 hx3 hx3b key hk1 hk2 hh hhb hhr hhw wH2
   rw [uh HF] at fin
   exact fin
 have st3110 : Hid (∀ (wx : World) (wS : Hid (Src wx b a cap l (M + 9))) (wT : Hid (Touch (fun k => k = b) w wx)) (wR : Hid (Blk wx rb [.int .i64 0, .int .i64 0, .int .i64 0, .string ⟨#[]⟩, .string ⟨#[]⟩])) (x1 : Nat) (hx1 : x1 < 5) (x2 : Int) (hx2 : 0 ≤ x2) (hx2b : x2 < 3) (x3 : Int) (hx3 : 0 ≤ x3) (hx3b : x3 < 5) (g : Nat) (hg : g ≠ b) (k : Int) (hk0 : 1 ≤ k) (hk3 : k ≤ 3), F 5 #[true, true, true, true, true, true, true, true, true, true, true, true, false, true, false, false, false, false] ⟨#[.pointer (some ⟨b, 0, none⟩), undef, .pointer (some ⟨rb, 0, none⟩), undef, .slice (some ⟨g, 0, none⟩) 5 5, .pointer (some ⟨b, 0, none⟩), .int .i64 (x1 : Int), .pointer (some ⟨g, x1, none⟩), .int .i64 k, .pointer (some ⟨b, 0, none⟩), .int .i64 x2, .int .i64 (1 + x2), .pointer (some ⟨b, 0, none⟩), .int .i64 x3, .int .i64 (1 + x3), .pointer (some ⟨b, 0, none⟩), undef, .pointer (some ⟨b, 0, none⟩), undef, undef, undef, undef, undef, undef, undef, undef, undef, undef, undef, undef, undef, undef, undef, undef], []⟩ wx) := by
  clear st5111 st5101 st5001 st4111 st4101 st4001 st3101 st3001 st2111 st2101 st2001 st1111 st1101 st1001 st0101 st0001 st5110 st5100 st5000 st4100 st4000
  clear S0 T0 R0
  refine Hd ?_
  intro wx wS wT wR x1 hx1 x2 hx2 hx2b x3 hx3 hx3b g hg k hk0 hk3
  rw [uh HF]
  refine rdy2 12 16 rfl rfl (fun K hK => ?_) (fun K hK => ?_)
  ·go_simp
   refine (key_any wx b a cap l (M + 9) (uh wS) (by omega)).mono ?_
   rintro e wy ⟨key, rfl, hk1, hk2, hS, hTT⟩
   have wS2 : Hid (Src wy b a cap l (M + 12)) := Hd (hS.mono (by omega))
   have wT2 : Hid (Touch (fun k => k = b) w wy) := Hd ((uh wT).trans hTT (fun _ _ h => h))
   have wR2 : Hid (Blk wy rb [.int .i64 0, .int .i64 0, .int .i64 0, .string ⟨#[]⟩, .string ⟨#[]⟩]) := Hd ((uh wR).kept hTT hrb)
   clear hS hTT wS wT wR
   go_wp2_with fail
   refine hK.out _ _ trivial (fun hHeld => ?_)
   clear hK K
   (try simp only [Act.put, List.getElem_toArray, List.getElem_cons_succ, List.getElem_cons_zero, List.setIfInBounds_toArray, List.set_cons_zero, List.set_cons_succ])
   have fin := uh st4110 _ wS2 wT2 wR2 x1 hx1 x2 hx2 hx2b x3 hx3 hx3b key hk1 hk2 g hg k hk0 hk3
   rw [uh HF] at fin
   exact fin
  ·have wH2 : Hid (Blk (wx.alloc (.cells #[.int .i64 0, .int .i64 0, .int .i64 0, .string ⟨#[]⟩, .string ⟨#[]⟩] 31)) wx.heap.size [.int .i64 0, .int .i64 0, .int .i64 0, .string ⟨#[]⟩, .string ⟨#[]⟩]) := Hd (Blk.new wx #[.int .i64 0, .int .i64 0, .int .i64 0, .string ⟨#[]⟩, .string ⟨#[]⟩] 31 wx.heap.size rfl)
   have wS2 : Hid (Src (wx.alloc (.cells #[.int .i64 0, .int .i64 0, .int .i64 0, .string ⟨#[]⟩, .string ⟨#[]⟩] 31)) b a cap l (M + 9)) := Hd ((uh wS).alloc _)
   have wT2 : Hid (Touch (fun k => k = b) w (wx.alloc (.cells #[.int .i64 0, .int .i64 0, .int .i64 0, .string ⟨#[]⟩, .string ⟨#[]⟩] 31))) := Hd ((uh wT).alloc _)
   have wR2 : Hid (Blk (wx.alloc (.cells #[.int .i64 0, .int .i64 0, .int .i64 0, .string ⟨#[]⟩, .string ⟨#[]⟩] 31)) rb [.int .i64 0, .int .i64 0, .int .i64 0, .string ⟨#[]⟩, .string ⟨#[]⟩]) := Hd ((uh wR).alloc _)
   have hhb : wx.heap.size ≠ b := by have := (uh wS).lt; omega
   have hhr : wx.heap.size ≠ rb := by have := (uh wR).1; omega
   have hhw : w.heap.size ≤ wx.heap.size := (uh wT).size
   clear wS wT wR
   go_simp
   refine hK.out _ _ trivial (fun hHeld => ?_)
   clear hK K
   (try simp only [Act.put, List.getElem_toArray, List.getElem_cons_succ, List.getElem_cons_zero, List.setIfInBounds_toArray, List.set_cons_zero, List.set_cons_succ])
   generalize wx.alloc (.cells #[.int .i64 0, .int .i64 0, .int .i64 0, .string ⟨#[]⟩, .string ⟨#[]⟩] 31) = wy at *
   generalize wx.heap.size = hh at *
   have fin := uh st3111 _ wS2 wT2 wR2 x1 hx1 x2 hx2 hx2b x3 hx3 hx3b g hg k hk0 hk3 hh hhb hhr hhw wH2
   rw [uh HF] at fin
   exact fin
 have st3100 : Hid (∀ (wx : World) (wS : Hid (Src wx b a cap l (M + 9))) (wT : Hid (Touch (fun k => k = b) w wx)) (wR : Hid (Blk wx rb [.int .i64 0, .int .i64 0, .int .i64 0, .string ⟨#[]⟩, .string ⟨#[]⟩])) (x1 : Nat) (hx1 : x1 < 5) (x2 : Int) (hx2 : 0 ≤ x2) (hx2b : x2 < 3) (x3 : Int) (hx3 : 0 ≤ x3) (hx3b : x3 < 5) (g : Nat) (hg : g ≠ b) (wB : Hid (Blk wx g [.int .i64 1, .int .i64 1, .int .i64 2, .int .i64 2, .int .i64 3])), F 6 #[true, true, true, true, false, true, true, true, true, true, true, true, false, true, false, false, false, false] ⟨#[.pointer (some ⟨b, 0, none⟩), undef, .pointer (some ⟨rb, 0, none⟩), undef, .slice (some ⟨g, 0, none⟩) 5 5, .pointer (some ⟨b, 0, none⟩), .int .i64 (x1 : Int), .pointer (some ⟨g, x1, none⟩), undef, .pointer (some ⟨b, 0, none⟩), .int .i64 x2, .int .i64 (1 + x2), .pointer (some ⟨b, 0, none⟩), .int .i64 x3, .int .i64 (1 + x3), .pointer (some ⟨b, 0, none⟩), undef, .pointer (some ⟨b, 0, none⟩), undef, undef, undef, undef, undef, undef, undef, undef, undef, undef, undef, undef, undef, undef, undef, undef], []⟩ wx) := by
  clear st5111 st5101 st5001 st4111 st4101 st4001 st3111 st3001 st2111 st2101 st2001 st1111 st1101 st1001 st0101 st0001 st5110 st5100 st5000 st4110 st4000
  clear S0 T0 R0
  refine Hd ?_
  intro wx wS wT wR x1 hx1 x2 hx2 hx2b x3 hx3 hx3b g hg wB
  rw [uh HF]
  refine rdy3 4 12 16 rfl rfl rfl (fun K hK => ?_) (fun K hK => ?_) (fun K hK => ?_)
  ·obtain ⟨k, hk0, hk3, hc⟩ : ∃ k : Int, 1 ≤ k ∧ k ≤ 3 ∧ wx.cell? ⟨g, x1, none⟩ = some (.int .i64 k) := by
    have hB := uh wB
    match x1, hx1 with
    | 0, _ => exact ⟨1, by omega, by omega, hB.cell 0 rfl⟩
    | 1, _ => exact ⟨1, by omega, by omega, hB.cell 1 rfl⟩
    | 2, _ => exact ⟨2, by omega, by omega, hB.cell 2 rfl⟩
    | 3, _ => exact ⟨2, by omega, by omega, hB.cell 3 rfl⟩
    | 4, _ => exact ⟨3, by omega, by omega, hB.cell 4 rfl⟩
   clear wB
   have wS2 := wS
   have wT2 := wT
   have wR2 := wR
   go_simp
   refine hK.out _ _ trivial (fun hHeld => ?_)
   clear hK K
   (try simp only [Act.put, List.getElem_toArray, List.getElem_cons_succ, List.getElem_cons_zero, List.setIfInBounds_toArray, List.set_cons_zero, List.set_cons_succ])
   have fin := uh st3110 _ wS2 wT2 wR2 x1 hx1 x2 hx2 hx2b x3 hx3 hx3b g hg k hk0 hk3
   rw [uh HF] at fin
   exact fin
  ·go_simp
   refine (key_any wx b a cap l (M + 9) (uh wS) (by omega)).mono ?_
   rintro e wy ⟨key, rfl, hk1, hk2, hS, hTT⟩
   have wS2 : Hid (Src wy b a cap l (M + 12)) := Hd (hS.mono (by omega))
   have wT2 : Hid (Touch (fun k => k = b) w wy) := Hd ((uh wT).trans hTT (fun _ _ h => h))
   have wR2 : Hid (Blk wy rb [.int .i64 0, .int .i64 0, .int .i64 0, .string ⟨#[]⟩, .string ⟨#[]⟩]) := Hd ((uh wR).kept hTT hrb)
   have wB2 : Hid (Blk wy g [.int .i64 1, .int .i64 1, .int .i64 2, .int .i64 2, .int .i64 3]) := Hd ((uh wB).kept hTT hg)
   clear hS hTT wS wT wR
   clear wB
   go_wp2_with fail
   refine hK.out _ _ trivial (fun hHeld => ?_)
   clear hK K
   (try simp only [Act.put, List.getElem_toArray, List.getElem_cons_succ, List.getElem_cons_zero, List.setIfInBounds_toArray, List.set_cons_zero, List.set_cons_succ])
   have fin := uh st4100 _ wS2 wT2 wR2 x1 hx1 x2 hx2 hx2b x3 hx3 hx3b key hk1 hk2 g hg wB2
   rw [uh HF] at fin
   exact fin
  ·have wH2 : Hid (Blk (wx.alloc (.cells #[.int .i64 0, .int .i64 0, .int .i64 0, .string ⟨#[]⟩, .string ⟨#[]⟩] 31)) wx.heap.size [.int .i64 0, .int .i64 0, .int .i64 0, .string ⟨#[]⟩, .string ⟨#[]⟩]) := Hd (Blk.new wx #[.int .i64 0, .int .i64 0, .int .i64 0, .string ⟨#[]⟩, .string ⟨#[]⟩] 31 wx.heap.size rfl)
   have wS2 : Hid (Src (wx.alloc (.cells #[.int .i64 0, .int .i64 0, .int .i64 0, .string ⟨#[]⟩, .string ⟨#[]⟩] 31)) b a cap l (M + 9)) := Hd ((uh wS).alloc _)
   have wT2 : Hid (Touch (fun k => k = b) w (wx.alloc (.cells #[.int .i64 0, .int .i64 0, .int .i64 0, .string ⟨#[]⟩, .string ⟨#[]⟩] 31))) := Hd ((uh wT).alloc _)
   have wR2 : Hid (Blk (wx.alloc (.cells #[.int .i64 0, .int .i64 0, .int .i64 0, .string ⟨#[]⟩, .string ⟨#[]⟩] 31)) rb [.int .i64 0, .int .i64 0, .int .i64 0, .string ⟨#[]⟩, .string ⟨#[]⟩]) := Hd ((uh wR).alloc _)
   have hhb : wx.heap.size ≠ b := by have := (uh wS).lt; omega
   have hhr : wx.heap.size ≠ rb := by have := (uh wR).1; omega
   have hhw : w.heap.size ≤ wx.heap.size := (uh wT).size
   have wB2 : Hid (Blk (wx.alloc (.cells #[.int .i64 0, .int .i64 0, .int .i64 0, .string ⟨#[]⟩, .string ⟨#[]⟩] 31)) g [.int .i64 1, .int .i64 1, .int .i64 2, .int .i64 2, .int .i64 3]) := Hd ((uh wB).alloc _)
   clear wB
   clear wS wT wR
   go_simp
   refine hK.out _ _ trivial (fun hHeld => ?_)
   clear hK K
   (try simp only [Act.put, List.getElem_toArray, List.getElem_cons_succ, List.getElem_cons_zero, List.setIfInBounds_toArray, List.set_cons_zero, List.set_cons_succ])
   generalize wx.alloc (.cells #[.int .i64 0, .int .i64 0, .int .i64 0, .string ⟨#[]⟩, .string ⟨#[]⟩] 31) = wy at *
   generalize wx.heap.size = hh at *
   have fin := uh st3101 _ wS2 wT2 wR2 x1 hx1 x2 hx2 hx2b x3 hx3 hx3b g hg wB2 hh hhb hhr hhw wH2
   rw [uh HF] at fin
   exact fin
 have st3000 : Hid (∀ (wx : World) (wS : Hid (Src wx b a cap l (M + 9))) (wT : Hid (Touch (fun k => k = b) w wx)) (wR : Hid (Blk wx rb [.int .i64 0, .int .i64 0, .int .i64 0, .string ⟨#[]⟩, .string ⟨#[]⟩])) (x1 : Nat) (hx1 : x1 < 5) (x2 : Int) (hx2 : 0 ≤ x2) (hx2b : x2 < 3) (x3 : Int) (hx3 : 0 ≤ x3) (hx3b : x3 < 5), F 8 #[false, true, true, false, false, true, true, true, true, true, true, true, false, true, false, false, false, false] ⟨#[.pointer (some ⟨b, 0, none⟩), undef, .pointer (some ⟨rb, 0, none⟩), undef, undef, .pointer (some ⟨b, 0, none⟩), .int .i64 (x1 : Int), undef, undef, .pointer (some ⟨b, 0, none⟩), .int .i64 x2, .int .i64 (1 + x2), .pointer (some ⟨b, 0, none⟩), .int .i64 x3, .int .i64 (1 + x3), .pointer (some ⟨b, 0, none⟩), undef, .pointer (some ⟨b, 0, none⟩), undef, undef, undef, undef, undef, undef, undef, undef, undef, undef, undef, undef, undef, undef, undef, undef], []⟩ wx) := by
  clear st5111 st5101 st5001 st4111 st4101 st4001 st3111 st3101 st2111 st2101 st2001 st1111 st1101 st1001 st0101 st0001 st5110 st5100 st5000 st4110 st4100 st3110
  clear S0 T0 R0
  refine Hd ?_
  intro wx wS wT wR x1 hx1 x2 hx2 hx2b x3 hx3 hx3b
  rw [uh HF]
  refine rdy3 0 12 16 rfl rfl rfl (fun K hK => ?_) (fun K hK => ?_) (fun K hK => ?_)
  ·have wB2 : Hid (Blk (wx.alloc (.cells #[.int .i64 1, .int .i64 1, .int .i64 2, .int .i64 2, .int .i64 3] 3)) wx.heap.size [.int .i64 1, .int .i64 1, .int .i64 2, .int .i64 2, .int .i64 3]) := Hd (Blk.new wx #[.int .i64 1, .int .i64 1, .int .i64 2, .int .i64 2, .int .i64 3] 3 wx.heap.size rfl)
   have wS2 : Hid (Src (wx.alloc (.cells #[.int .i64 1, .int .i64 1, .int .i64 2, .int .i64 2, .int .i64 3] 3)) b a cap l (M + 9)) := Hd ((uh wS).alloc _)
   have wT2 : Hid (Touch (fun k => k = b) w (wx.alloc (.cells #[.int .i64 1, .int .i64 1, .int .i64 2, .int .i64 2, .int .i64 3] 3))) := Hd ((uh wT).alloc _)
   have wR2 : Hid (Blk (wx.alloc (.cells #[.int .i64 1, .int .i64 1, .int .i64 2, .int .i64 2, .int .i64 3] 3)) rb [.int .i64 0, .int .i64 0, .int .i64 0, .string ⟨#[]⟩, .string ⟨#[]⟩]) := Hd ((uh wR).alloc _)
   have hg : wx.heap.size ≠ b := by have := (uh wS).lt; omega
   clear wS wT wR
   go_simp
   refine hK.out _ _ trivial (fun hHeld => ?_)
   clear hK K
   (try simp only [Act.put, List.getElem_toArray, List.getElem_cons_succ, List.getElem_cons_zero, List.setIfInBounds_toArray, List.set_cons_zero, List.set_cons_succ])
   generalize wx.alloc (.cells #[.int .i64 1, .int .i64 1, .int .i64 2, .int .i64 2, .int .i64 3] 3) = wy at *
   generalize wx.heap.size = g at *
   have hx1i : (x1 : Int) < 5 := by omega
   have hx1j : 0 ≤ (x1 : Int) := by omega
   refine wpAnyH_take (i := 3) (oi := _) (v := ?_) rfl (by kernel_rfl) (by kernel_rfl) (by kernel_rfl) (fun _ _ _ h => h) (Or.inl ⟨by rfl, ?_⟩) trivial ?_
   rotate_left 1
   ·(intro wq hSw; (try simp only [List.getElem_toArray, List.getElem_cons_succ, List.getElem_cons_zero]); go_simp; try with_reducible rfl)
   (try simp only [Act.put, List.getElem_toArray, List.getElem_cons_succ, List.getElem_cons_zero, List.setIfInBounds_toArray, List.set_cons_zero, List.set_cons_succ])
   have fin := uh st3100 _ wS2 wT2 wR2 x1 hx1 x2 hx2 hx2b x3 hx3 hx3b g hg wB2
   rw [uh HF] at fin
   exact fin
  ·go_simp
   refine (key_any wx b a cap l (M + 9) (uh wS) (by omega)).mono ?_
   rintro e wy ⟨key, rfl, hk1, hk2, hS, hTT⟩
   have wS2 : Hid (Src wy b a cap l (M + 12)) := Hd (hS.mono (by omega))
   have wT2 : Hid (Touch (fun k => k = b) w wy) := Hd ((uh wT).trans hTT (fun _ _ h => h))
   have wR2 : Hid (Blk wy rb [.int .i64 0, .int .i64 0, .int .i64 0, .string ⟨#[]⟩, .string ⟨#[]⟩]) := Hd ((uh wR).kept hTT hrb)
   clear hS hTT wS wT wR
   go_wp2_with fail
   refine hK.out _ _ trivial (fun hHeld => ?_)
   clear hK K
   (try simp only [Act.put, List.getElem_toArray, List.getElem_cons_succ, List.getElem_cons_zero, List.setIfInBounds_toArray, List.set_cons_zero, List.set_cons_succ])
   have fin := uh st4000 _ wS2 wT2 wR2 x1 hx1 x2 hx2 hx2b x3 hx3 hx3b key hk1 hk2
   rw [uh HF] at fin
   exact fin
  ·have wH2 : Hid (Blk (wx.alloc (.cells #[.int .i64 0, .int .i64 0, .int .i64 0, .string ⟨#[]⟩, .string ⟨#[]⟩] 31)) wx.heap.size [.int .i64 0, .int .i64 0, .int .i64 0, .string ⟨#[]⟩, .string ⟨#[]⟩]) := Hd (Blk.new wx #[.int .i64 0, .int .i64 0, .int .i64 0, .string ⟨#[]⟩, .string ⟨#[]⟩] 31 wx.heap.size rfl)
   have wS2 : Hid (Src (wx.alloc (.cells #[.int .i64 0, .int .i64 0, .int .i64 0, .string ⟨#[]⟩, .string ⟨#[]⟩] 31)) b a cap l (M + 9)) := Hd ((uh wS).alloc _)
   have wT2 : Hid (Touch (fun k => k = b) w (wx.alloc (.cells #[.int .i64 0, .int .i64 0, .int .i64 0, .string ⟨#[]⟩, .string ⟨#[]⟩] 31))) := Hd ((uh wT).alloc _)
   have wR2 : Hid (Blk (wx.alloc (.cells #[.int .i64 0, .int .i64 0, .int .i64 0, .string ⟨#[]⟩, .string ⟨#[]⟩] 31)) rb [.int .i64 0, .int .i64 0, .int .i64 0, .string ⟨#[]⟩, .string ⟨#[]⟩]) := Hd ((uh wR).alloc _)
   have hhb : wx.heap.size ≠ b := by have := (uh wS).lt; omega
   have hhr : wx.heap.size ≠ rb := by have := (uh wR).1; omega
   have hhw : w.heap.size ≤ wx.heap.size := (uh wT).size
   clear wS wT wR
   go_simp
   refine hK.out _ _ trivial (fun hHeld => ?_)
   clear hK K
   (try simp only [Act.put, List.getElem_toArray, List.getElem_cons_succ, List.getElem_cons_zero, List.setIfInBounds_toArray, List.set_cons_zero, List.set_cons_succ])
   generalize wx.alloc (.cells #[.int .i64 0, .int .i64 0, .int .i64 0, .string ⟨#[]⟩, .string ⟨#[]⟩] 31) = wy at *
   generalize wx.heap.size = hh at *
   have fin := uh st3001 _ wS2 wT2 wR2 x1 hx1 x2 hx2 hx2b x3 hx3 hx3b hh hhb hhr hhw wH2
   rw [uh HF] at fin
   exact fin
 have st2110 : Hid (∀ (wx : World) (wS : Hid (Src wx b a cap l (M + 6))) (wT : Hid (Touch (fun k => k = b) w wx)) (wR : Hid (Blk wx rb [.int .i64 0, .int .i64 0, .int .i64 0, .string ⟨#[]⟩, .string ⟨#[]⟩])) (x1 : Nat) (hx1 : x1 < 5) (x2 : Int) (hx2 : 0 ≤ x2) (hx2b : x2 < 3) (g : Nat) (hg : g ≠ b) (k : Int) (hk0 : 1 ≤ k) (hk3 : k ≤ 3), F 7 #[true, true, true, true, true, true, true, true, true, false, false, true, false, true, false, false, false, false] ⟨#[.pointer (some ⟨b, 0, none⟩), undef, .pointer (some ⟨rb, 0, none⟩), undef, .slice (some ⟨g, 0, none⟩) 5 5, .pointer (some ⟨b, 0, none⟩), .int .i64 (x1 : Int), .pointer (some ⟨g, x1, none⟩), .int .i64 k, .pointer (some ⟨b, 0, none⟩), .int .i64 x2, .int .i64 (1 + x2), .pointer (some ⟨b, 0, none⟩), undef, undef, .pointer (some ⟨b, 0, none⟩), undef, .pointer (some ⟨b, 0, none⟩), undef, undef, undef, undef, undef, undef, undef, undef, undef, undef, undef, undef, undef, undef, undef, undef], []⟩ wx) := by
  clear st5111 st5101 st5001 st4111 st4101 st4001 st3111 st3101 st3001 st2101 st2001 st1111 st1101 st1001 st0101 st0001 st5110 st5100 st5000 st4110 st4100 st4000 st3100 st3000
  clear S0 T0 R0
  refine Hd ?_
  intro wx wS wT wR x1 hx1 x2 hx2 hx2b g hg k hk0 hk3
  rw [uh HF]
  refine rdy2 9 16 rfl rfl (fun K hK => ?_) (fun K hK => ?_)
  ·go_simp
   refine (srcNext_any 5 wx b a cap l (M + 6) (uh wS) (by omega) (by omega) (by omega)).mono ?_
   rintro e wy ⟨x3, rfl, hx3, hx3b, hS, hO⟩
   have wr : IntKind.i64.wrap (1 + x3) = 1 + x3 := wrapS _ (by omega) (by omega)
   have hTT := hO.touch
   have wS2 : Hid (Src wy b a cap l (M + 9)) := Hd (hS.mono (by omega))
   have wT2 : Hid (Touch (fun k => k = b) w wy) := Hd ((uh wT).trans hTT (fun _ _ h => h))
   have wR2 : Hid (Blk wy rb [.int .i64 0, .int .i64 0, .int .i64 0, .string ⟨#[]⟩, .string ⟨#[]⟩]) := Hd ((uh wR).kept hTT hrb)
   clear hS hTT wS wT wR
   go_wp2_with fail
   refine hK.out _ _ trivial (fun hHeld => ?_)
   clear hK K
   (try simp only [Act.put, List.getElem_toArray, List.getElem_cons_succ, List.getElem_cons_zero, List.setIfInBounds_toArray, List.set_cons_zero, List.set_cons_succ])
   refine wpAnyH_take (i := 10) (oi := _) (v := ?_) rfl (by kernel_rfl) (by kernel_rfl) (by kernel_rfl) (fun _ _ _ h => h) (Or.inl ⟨by rfl, ?_⟩) trivial ?_
   rotate_left 1
   ·(intro wq hSw; (try simp only [List.getElem_toArray, List.getElem_cons_succ, List.getElem_cons_zero]); go_simp; try with_reducible rfl)
   (try simp only [Act.put, List.getElem_toArray, List.getElem_cons_succ, List.getElem_cons_zero, List.setIfInBounds_toArray, List.set_cons_zero, List.set_cons_succ])
   have fin := uh st3110 _ wS2 wT2 wR2 x1 hx1 x2 hx2 hx2b x3 hx3 hx3b g hg k hk0 hk3
   rw [uh HF] at fin
   exact fin
  ·have wH2 : Hid (Blk (wx.alloc (.cells #[.int .i64 0, .int .i64 0, .int .i64 0, .string ⟨#[]⟩, .string ⟨#[]⟩] 31)) wx.heap.size [.int .i64 0, .int .i64 0, .int .i64 0, .string ⟨#[]⟩, .string ⟨#[]⟩]) := Hd (Blk.new wx #[.int .i64 0, .int .i64 0, .int .i64 0, .string ⟨#[]⟩, .string ⟨#[]⟩] 31 wx.heap.size rfl)
   have wS2 : Hid (Src (wx.alloc (.cells #[.int .i64 0, .int .i64 0, .int .i64 0, .string ⟨#[]⟩, .string ⟨#[]⟩] 31)) b a cap l (M + 6)) := Hd ((uh wS).alloc _)
   have wT2 : Hid (Touch (fun k => k = b) w (wx.alloc (.cells #[.int .i64 0, .int .i64 0, .int .i64 0, .string ⟨#[]⟩, .string ⟨#[]⟩] 31))) := Hd ((uh wT).alloc _)
   have wR2 : Hid (Blk (wx.alloc (.cells #[.int .i64 0, .int .i64 0, .int .i64 0, .string ⟨#[]⟩, .string ⟨#[]⟩] 31)) rb [.int .i64 0, .int .i64 0, .int .i64 0, .string ⟨#[]⟩, .string ⟨#[]⟩]) := Hd ((uh wR).alloc _)
   have hhb : wx.heap.size ≠ b := by have := (uh wS).lt; omega
   have hhr : wx.heap.size ≠ rb := by have := (uh wR).1; omega
   have hhw : w.heap.size ≤ wx.heap.size := (uh wT).size
   clear wS wT wR
   go_simp
   refine hK.out _ _ trivial (fun hHeld => ?_)
   clear hK K
   (try simp only [Act.put, List.getElem_toArray, List.getElem_cons_succ, List.getElem_cons_zero, List.setIfInBounds_toArray, List.set_cons_zero, List.set_cons_succ])
   generalize wx.alloc (.cells #[.int .i64 0, .int .i64 0, .int .i64 0, .string ⟨#[]⟩, .string ⟨#[]⟩] 31) = wy at *
   generalize wx.heap.size = hh at *
   have fin := uh st2111 _ wS2 wT2 wR2 x1 hx1 x2 hx2 hx2b g hg k hk0 hk3 hh hhb hhr hhw wH2
   rw [uh HF] at fin
   exact fin
 have st2100 : Hid (∀ (wx : World) (wS : Hid (Src wx b a cap l (M + 6))) (wT : Hid (Touch (fun k => k = b) w wx)) (wR : Hid (Blk wx rb [.int .i64 0, .int .i64 0, .int .i64 0, .string ⟨#[]⟩, .string ⟨#[]⟩])) (x1 : Nat) (hx1 : x1 < 5) (x2 : Int) (hx2 : 0 ≤ x2) (hx2b : x2 < 3) (g : Nat) (hg : g ≠ b) (wB : Hid (Blk wx g [.int .i64 1, .int .i64 1, .int .i64 2, .int .i64 2, .int .i64 3])), F 8 #[true, true, true, true, false, true, true, true, true, false, false, true, false, true, false, false, false, false] ⟨#[.pointer (some ⟨b, 0, none⟩), undef, .pointer (some ⟨rb, 0, none⟩), undef, .slice (some ⟨g, 0, none⟩) 5 5, .pointer (some ⟨b, 0, none⟩), .int .i64 (x1 : Int), .pointer (some ⟨g, x1, none⟩), undef, .pointer (some ⟨b, 0, none⟩), .int .i64 x2, .int .i64 (1 + x2), .pointer (some ⟨b, 0, none⟩), undef, undef, .pointer (some ⟨b, 0, none⟩), undef, .pointer (some ⟨b, 0, none⟩), undef, undef, undef, undef, undef, undef, undef, undef, undef, undef, undef, undef, undef, undef, undef, undef], []⟩ wx) := by
  clear st5111 st5101 st5001 st4111 st4101 st4001 st3111 st3101 st3001 st2111 st2001 st1111 st1101 st1001 st0101 st0001 st5110 st5100 st5000 st4110 st4100 st4000 st3110 st3000
  clear S0 T0 R0
  refine Hd ?_
  intro wx wS wT wR x1 hx1 x2 hx2 hx2b g hg wB
  rw [uh HF]
  refine rdy3 4 9 16 rfl rfl rfl (fun K hK => ?_) (fun K hK => ?_) (fun K hK => ?_)
  ·obtain ⟨k, hk0, hk3, hc⟩ : ∃ k : Int, 1 ≤ k ∧ k ≤ 3 ∧ wx.cell? ⟨g, x1, none⟩ = some (.int .i64 k) := by
    have hB := uh wB
    match x1, hx1 with
    | 0, _ => exact ⟨1, by omega, by omega, hB.cell 0 rfl⟩
    | 1, _ => exact ⟨1, by omega, by omega, hB.cell 1 rfl⟩
    | 2, _ => exact ⟨2, by omega, by omega, hB.cell 2 rfl⟩
    | 3, _ => exact ⟨2, by omega, by omega, hB.cell 3 rfl⟩
    | 4, _ => exact ⟨3, by omega, by omega, hB.cell 4 rfl⟩
   clear wB
   have wS2 := wS
   have wT2 := wT
   have wR2 := wR
   go_simp
   refine hK.out _ _ trivial (fun hHeld => ?_)
   clear hK K
   (try simp only [Act.put, List.getElem_toArray, List.getElem_cons_succ, List.getElem_cons_zero, List.setIfInBounds_toArray, List.set_cons_zero, List.set_cons_succ])
   have fin := uh st2110 _ wS2 wT2 wR2 x1 hx1 x2 hx2 hx2b g hg k hk0 hk3
   rw [uh HF] at fin
   exact fin
  ·go_simp
   refine (srcNext_any 5 wx b a cap l (M + 6) (uh wS) (by omega) (by omega) (by omega)).mono ?_
   rintro e wy ⟨x3, rfl, hx3, hx3b, hS, hO⟩
   have wr : IntKind.i64.wrap (1 + x3) = 1 + x3 := wrapS _ (by omega) (by omega)
   have hTT := hO.touch
   have wS2 : Hid (Src wy b a cap l (M + 9)) := Hd (hS.mono (by omega))
   have wT2 : Hid (Touch (fun k => k = b) w wy) := Hd ((uh wT).trans hTT (fun _ _ h => h))
   have wR2 : Hid (Blk wy rb [.int .i64 0, .int .i64 0, .int .i64 0, .string ⟨#[]⟩, .string ⟨#[]⟩]) := Hd ((uh wR).kept hTT hrb)
   have wB2 : Hid (Blk wy g [.int .i64 1, .int .i64 1, .int .i64 2, .int .i64 2, .int .i64 3]) := Hd ((uh wB).kept hTT hg)
   clear hS hTT wS wT wR
   clear wB
   go_wp2_with fail
   refine hK.out _ _ trivial (fun hHeld => ?_)
   clear hK K
   (try simp only [Act.put, List.getElem_toArray, List.getElem_cons_succ, List.getElem_cons_zero, List.setIfInBounds_toArray, List.set_cons_zero, List.set_cons_succ])
   refine wpAnyH_take (i := 10) (oi := _) (v := ?_) rfl (by kernel_rfl) (by kernel_rfl) (by kernel_rfl) (fun _ _ _ h => h) (Or.inl ⟨by rfl, ?_⟩) trivial ?_
   rotate_left 1
   ·(intro wq hSw; (try simp only [List.getElem_toArray, List.getElem_cons_succ, List.getElem_cons_zero]); go_simp; try with_reducible rfl)
   (try simp only [Act.put, List.getElem_toArray, List.getElem_cons_succ, List.getElem_cons_zero, List.setIfInBounds_toArray, List.set_cons_zero, List.set_cons_succ])
   have fin := uh st3100 _ wS2 wT2 wR2 x1 hx1 x2 hx2 hx2b x3 hx3 hx3b g hg wB2
   rw [uh HF] at fin
   exact fin
  ·have wH2 : Hid (Blk (wx.alloc (.cells #[.int .i64 0, .int .i64 0, .int .i64 0, .string ⟨#[]⟩, .string ⟨#[]⟩] 31)) wx.heap.size [.int .i64 0, .int .i64 0, .int .i64 0, .string ⟨#[]⟩, .string ⟨#[]⟩]) := Hd (Blk.new wx #[.int .i64 0, .int .i64 0, .int .i64 0, .string ⟨#[]⟩, .string ⟨#[]⟩] 31 wx.heap.size rfl)
   have wS2 : Hid (Src (wx.alloc (.cells #[.int .i64 0, .int .i64 0, .int .i64 0, .string ⟨#[]⟩, .string ⟨#[]⟩] 31)) b a cap l (M + 6)) := Hd ((uh wS).alloc _)
   have wT2 : Hid (Touch (fun k => k = b) w (wx.alloc (.cells #[.int .i64 0, .int .i64 0, .int .i64 0, .string ⟨#[]⟩, .string ⟨#[]⟩] 31))) := Hd ((uh wT).alloc _)
   have wR2 : Hid (Blk (wx.alloc (.cells #[.int .i64 0, .int .i64 0, .int .i64 0, .string ⟨#[]⟩, .string ⟨#[]⟩] 31)) rb [.int .i64 0, .int .i64 0, .int .i64 0, .string ⟨#[]⟩, .string ⟨#[]⟩]) := Hd ((uh wR).alloc _)
   have hhb : wx.heap.size ≠ b := by have := (uh wS).lt; omega
   have hhr : wx.heap.size ≠ rb := by have := (uh wR).1; omega
   have hhw : w.heap.size ≤ wx.heap.size := (uh wT).size
   have wB2 : Hid (Blk (wx.alloc (.cells #[.int .i64 0, .int .i64 0, .int .i64 0, .string ⟨#[]⟩, .string ⟨#[]⟩] 31)) g [.int .i64 1, .int .i64 1, .int .i64 2, .int .i64 2, .int .i64 3]) := Hd ((uh wB).alloc _)
   clear wB
   clear wS wT wR
   go_simp
   refine hK.out _ _ trivial (fun hHeld => ?_)
   clear hK K
   (try simp only [Act.put, List.getElem_toArray, List.getElem_cons_succ, List.getElem_cons_zero, List.setIfInBounds_toArray, List.set_cons_zero, List.set_cons_succ])
   generalize wx.alloc (.cells #[.int .i64 0, .int .i64 0, .int .i64 0, .string ⟨#[]⟩, .string ⟨#[]⟩] 31) = wy at *
   generalize wx.heap.size = hh at *
   have fin := uh st2101 _ wS2 wT2 wR2 x1 hx1 x2 hx2 hx2b g hg wB2 hh hhb hhr hhw wH2
   rw [uh HF] at fin
   exact fin
 have st2000 : Hid (∀ (wx : World) (wS : Hid (Src wx b a cap l (M + 6))) (wT : Hid (Touch (fun k => k = b) w wx)) (wR : Hid (Blk wx rb [.int .i64 0, .int .i64 0, .int .i64 0, .string ⟨#[]⟩, .string ⟨#[]⟩])) (x1 : Nat) (hx1 : x1 < 5) (x2 : Int) (hx2 : 0 ≤ x2) (hx2b : x2 < 3), F 10 #[false, true, true, false, false, true, true, true, true, false, false, true, false, true, false, false, false, false] ⟨#[.pointer (some ⟨b, 0, none⟩), undef, .pointer (some ⟨rb, 0, none⟩), undef, undef, .pointer (some ⟨b, 0, none⟩), .int .i64 (x1 : Int), undef, undef, .pointer (some ⟨b, 0, none⟩), .int .i64 x2, .int .i64 (1 + x2), .pointer (some ⟨b, 0, none⟩), undef, undef, .pointer (some ⟨b, 0, none⟩), undef, .pointer (some ⟨b, 0, none⟩), undef, undef, undef, undef, undef, undef, undef, undef, undef, undef, undef, undef, undef, undef, undef, undef], []⟩ wx) := by
  clear st5111 st5101 st5001 st4111 st4101 st4001 st3111 st3101 st3001 st2111 st2101 st1111 st1101 st1001 st0101 st0001 st5110 st5100 st5000 st4110 st4100 st4000 st3110 st3100 st2110
  clear S0 T0 R0
  refine Hd ?_
  intro wx wS wT wR x1 hx1 x2 hx2 hx2b
  rw [uh HF]
  refine rdy3 0 9 16 rfl rfl rfl (fun K hK => ?_) (fun K hK => ?_) (fun K hK => ?_)
  ·have wB2 : Hid (Blk (wx.alloc (.cells #[.int .i64 1, .int .i64 1, .int .i64 2, .int .i64 2, .int .i64 3] 3)) wx.heap.size [.int .i64 1, .int .i64 1, .int .i64 2, .int .i64 2, .int .i64 3]) := Hd (Blk.new wx #[.int .i64 1, .int .i64 1, .int .i64 2, .int .i64 2, .int .i64 3] 3 wx.heap.size rfl)
   have wS2 : Hid (Src (wx.alloc (.cells #[.int .i64 1, .int .i64 1, .int .i64 2, .int .i64 2, .int .i64 3] 3)) b a cap l (M + 6)) := Hd ((uh wS).alloc _)
   have wT2 : Hid (Touch (fun k => k = b) w (wx.alloc (.cells #[.int .i64 1, .int .i64 1, .int .i64 2, .int .i64 2, .int .i64 3] 3))) := Hd ((uh wT).alloc _)
   have wR2 : Hid (Blk (wx.alloc (.cells #[.int .i64 1, .int .i64 1, .int .i64 2, .int .i64 2, .int .i64 3] 3)) rb [.int .i64 0, .int .i64 0, .int .i64 0, .string ⟨#[]⟩, .string ⟨#[]⟩]) := Hd ((uh wR).alloc _)
   have hg : wx.heap.size ≠ b := by have := (uh wS).lt; omega
   clear wS wT wR
   go_simp
   refine hK.out _ _ trivial (fun hHeld => ?_)
   clear hK K
   (try simp only [Act.put, List.getElem_toArray, List.getElem_cons_succ, List.getElem_cons_zero, List.setIfInBounds_toArray, List.set_cons_zero, List.set_cons_succ])
   generalize wx.alloc (.cells #[.int .i64 1, .int .i64 1, .int .i64 2, .int .i64 2, .int .i64 3] 3) = wy at *
   generalize wx.heap.size = g at *
   have hx1i : (x1 : Int) < 5 := by omega
   have hx1j : 0 ≤ (x1 : Int) := by omega
   refine wpAnyH_take (i := 3) (oi := _) (v := ?_) rfl (by kernel_rfl) (by kernel_rfl) (by kernel_rfl) (fun _ _ _ h => h) (Or.inl ⟨by rfl, ?_⟩) trivial ?_
   rotate_left 1
   ·(intro wq hSw; (try simp only [List.getElem_toArray, List.getElem_cons_succ, List.getElem_cons_zero]); go_simp; try with_reducible rfl)
   (try simp only [Act.put, List.getElem_toArray, List.getElem_cons_succ, List.getElem_cons_zero, List.setIfInBounds_toArray, List.set_cons_zero, List.set_cons_succ])
   have fin := uh st2100 _ wS2 wT2 wR2 x1 hx1 x2 hx2 hx2b g hg wB2
   rw [uh HF] at fin
   exact fin
  ·go_simp
   refine (srcNext_any 5 wx b a cap l (M + 6) (uh wS) (by omega) (by omega) (by omega)).mono ?_
   rintro e wy ⟨x3, rfl, hx3, hx3b, hS, hO⟩
   have wr : IntKind.i64.wrap (1 + x3) = 1 + x3 := wrapS _ (by omega) (by omega)
   have hTT := hO.touch
   have wS2 : Hid (Src wy b a cap l (M + 9)) := Hd (hS.mono (by omega))
   have wT2 : Hid (Touch (fun k => k = b) w wy) := Hd ((uh wT).trans hTT (fun _ _ h => h))
   have wR2 : Hid (Blk wy rb [.int .i64 0, .int .i64 0, .int .i64 0, .string ⟨#[]⟩, .string ⟨#[]⟩]) := Hd ((uh wR).kept hTT hrb)
   clear hS hTT wS wT wR
   go_wp2_with fail
   refine hK.out _ _ trivial (fun hHeld => ?_)
   clear hK K
   (try simp only [Act.put, List.getElem_toArray, List.getElem_cons_succ, List.getElem_cons_zero, List.setIfInBounds_toArray, List.set_cons_zero, List.set_cons_succ])
   refine wpAnyH_take (i := 10) (oi := _) (v := ?_) rfl (by kernel_rfl) (by kernel_rfl) (by kernel_rfl) (fun _ _ _ h => h) (Or.inl ⟨by rfl, ?_⟩) trivial ?_
   rotate_left 1
   ·(intro wq hSw; (try simp only [List.getElem_toArray, List.getElem_cons_succ, List.getElem_cons_zero]); go_simp; try with_reducible rfl)
   (try simp only [Act.put, List.getElem_toArray, List.getElem_cons_succ, List.getElem_cons_zero, List.setIfInBounds_toArray, List.set_cons_zero, List.set_cons_succ])
   have fin := uh st3000 _ wS2 wT2 wR2 x1 hx1 x2 hx2 hx2b x3 hx3 hx3b
   rw [uh HF] at fin
   exact fin
  ·have wH2 : Hid (Blk (wx.alloc (.cells #[.int .i64 0, .int .i64 0, .int .i64 0, .string ⟨#[]⟩, .string ⟨#[]⟩] 31)) wx.heap.size [.int .i64 0, .int .i64 0, .int .i64 0, .string ⟨#[]⟩, .string ⟨#[]⟩]) := Hd (Blk.new wx #[.int .i64 0, .int .i64 0, .int .i64 0, .string ⟨#[]⟩, .string ⟨#[]⟩] 31 wx.heap.size rfl)
   have wS2 : Hid (Src (wx.alloc (.cells #[.int .i64 0, .int .i64 0, .int .i64 0, .string ⟨#[]⟩, .string ⟨#[]⟩] 31)) b a cap l (M + 6)) := Hd ((uh wS).alloc _)
   have wT2 : Hid (Touch (fun k => k = b) w (wx.alloc (.cells #[.int .i64 0, .int .i64 0, .int .i64 0, .string ⟨#[]⟩, .string ⟨#[]⟩] 31))) := Hd ((uh wT).alloc _)
   have wR2 : Hid (Blk (wx.alloc (.cells #[.int .i64 0, .int .i64 0, .int .i64 0, .string ⟨#[]⟩, .string ⟨#[]⟩] 31)) rb [.int .i64 0, .int .i64 0, .int .i64 0, .string ⟨#[]⟩, .string ⟨#[]⟩]) := Hd ((uh wR).alloc _)
   have hhb : wx.heap.size ≠ b := by have := (uh wS).lt; omega
   have hhr : wx.heap.size ≠ rb := by have := (uh wR).1; omega
   have hhw : w.heap.size ≤ wx.heap.size := (uh wT).size
   clear wS wT wR
   go_simp
   refine hK.out _ _ trivial (fun hHeld => ?_)
   clear hK K
   (try simp only [Act.put, List.getElem_toArray, List.getElem_cons_succ, List.getElem_cons_zero, List.setIfInBounds_toArray, List.set_cons_zero, List.set_cons_succ])
   generalize wx.alloc (.cells #[.int .i64 0, .int .i64 0, .int .i64 0, .string ⟨#[]⟩, .string ⟨#[]⟩] 31) = wy at *
   generalize wx.heap.size = hh at *
   have fin := uh st2001 _ wS2 wT2 wR2 x1 hx1 x2 hx2 hx2b hh hhb hhr hhw wH2
   rw [uh HF] at fin
   exact fin
 have st1110 : Hid (∀ (wx : World) (wS : Hid (Src wx b a cap l (M + 3))) (wT : Hid (Touch (fun k => k = b) w wx)) (wR : Hid (Blk wx rb [.int .i64 0, .int .i64 0, .int .i64 0, .string ⟨#[]⟩, .string ⟨#[]⟩])) (x1 : Nat) (hx1 : x1 < 5) (g : Nat) (hg : g ≠ b) (k : Int) (hk0 : 1 ≤ k) (hk3 : k ≤ 3), F 9 #[true, true, true, true, true, true, false, false, true, false, false, true, false, true, false, false, false, false] ⟨#[.pointer (some ⟨b, 0, none⟩), undef, .pointer (some ⟨rb, 0, none⟩), undef, .slice (some ⟨g, 0, none⟩) 5 5, .pointer (some ⟨b, 0, none⟩), .int .i64 (x1 : Int), .pointer (some ⟨g, x1, none⟩), .int .i64 k, .pointer (some ⟨b, 0, none⟩), undef, undef, .pointer (some ⟨b, 0, none⟩), undef, undef, .pointer (some ⟨b, 0, none⟩), undef, .pointer (some ⟨b, 0, none⟩), undef, undef, undef, undef, undef, undef, undef, undef, undef, undef, undef, undef, undef, undef, undef, undef], []⟩ wx) := by
  clear st5111 st5101 st5001 st4111 st4101 st4001 st3111 st3101 st3001 st2111 st2101 st2001 st1101 st1001 st0101 st0001 st5110 st5100 st5000 st4110 st4100 st4000 st3110 st3100 st3000 st2100 st2000
  clear S0 T0 R0
  refine Hd ?_
  intro wx wS wT wR x1 hx1 g hg k hk0 hk3
  rw [uh HF]
  refine rdy2 6 16 rfl rfl (fun K hK => ?_) (fun K hK => ?_)
  ·go_simp
   refine (srcNext_any 3 wx b a cap l (M + 3) (uh wS) (by omega) (by omega) (by omega)).mono ?_
   rintro e wy ⟨x2, rfl, hx2, hx2b, hS, hO⟩
   have wr : IntKind.i64.wrap (1 + x2) = 1 + x2 := wrapS _ (by omega) (by omega)
   have hTT := hO.touch
   have wS2 : Hid (Src wy b a cap l (M + 6)) := Hd (hS.mono (by omega))
   have wT2 : Hid (Touch (fun k => k = b) w wy) := Hd ((uh wT).trans hTT (fun _ _ h => h))
   have wR2 : Hid (Blk wy rb [.int .i64 0, .int .i64 0, .int .i64 0, .string ⟨#[]⟩, .string ⟨#[]⟩]) := Hd ((uh wR).kept hTT hrb)
   clear hS hTT wS wT wR
   go_wp2_with fail
   refine hK.out _ _ trivial (fun hHeld => ?_)
   clear hK K
   (try simp only [Act.put, List.getElem_toArray, List.getElem_cons_succ, List.getElem_cons_zero, List.setIfInBounds_toArray, List.set_cons_zero, List.set_cons_succ])
   refine wpAnyH_take (i := 7) (oi := _) (v := ?_) rfl (by kernel_rfl) (by kernel_rfl) (by kernel_rfl) (fun _ _ _ h => h) (Or.inl ⟨by rfl, ?_⟩) trivial ?_
   rotate_left 1
   ·(intro wq hSw; (try simp only [List.getElem_toArray, List.getElem_cons_succ, List.getElem_cons_zero]); go_simp; try with_reducible rfl)
   (try simp only [Act.put, List.getElem_toArray, List.getElem_cons_succ, List.getElem_cons_zero, List.setIfInBounds_toArray, List.set_cons_zero, List.set_cons_succ])
   have fin := uh st2110 _ wS2 wT2 wR2 x1 hx1 x2 hx2 hx2b g hg k hk0 hk3
   rw [uh HF] at fin
   exact fin
  ·have wH2 : Hid (Blk (wx.alloc (.cells #[.int .i64 0, .int .i64 0, .int .i64 0, .string ⟨#[]⟩, .string ⟨#[]⟩] 31)) wx.heap.size [.int .i64 0, .int .i64 0, .int .i64 0, .string ⟨#[]⟩, .string ⟨#[]⟩]) := Hd (Blk.new wx #[.int .i64 0, .int .i64 0, .int .i64 0, .string ⟨#[]⟩, .string ⟨#[]⟩] 31 wx.heap.size rfl)
   have wS2 : Hid (Src (wx.alloc (.cells #[.int .i64 0, .int .i64 0, .int .i64 0, .string ⟨#[]⟩, .string ⟨#[]⟩] 31)) b a cap l (M + 3)) := Hd ((uh wS).alloc _)
   have wT2 : Hid (Touch (fun k => k = b) w (wx.alloc (.cells #[.int .i64 0, .int .i64 0, .int .i64 0, .string ⟨#[]⟩, .string ⟨#[]⟩] 31))) := Hd ((uh wT).alloc _)
   have wR2 : Hid (Blk (wx.alloc (.cells #[.int .i64 0, .int .i64 0, .int .i64 0, .string ⟨#[]⟩, .string ⟨#[]⟩] 31)) rb [.int .i64 0, .int .i64 0, .int .i64 0, .string ⟨#[]⟩, .string ⟨#[]⟩]) := Hd ((uh wR).alloc _)
   have hhb : wx.heap.size ≠ b := by have := (uh wS).lt; omega
   have hhr : wx.heap.size ≠ rb := by have := (uh wR).1; omega
   have hhw : w.heap.size ≤ wx.heap.size := (uh wT).size
   clear wS wT wR
   go_simp
   refine hK.out _ _ trivial (fun hHeld => ?_)
   clear hK K
   (try simp only [Act.put, List.getElem_toArray, List.getElem_cons_succ, List.getElem_cons_zero, List.setIfInBounds_toArray, List.set_cons_zero, List.set_cons_succ])
   generalize wx.alloc (.cells #[.int .i64 0, .int .i64 0, .int .i64 0, .string ⟨#[]⟩, .string ⟨#[]⟩] 31) = wy at *
   generalize wx.heap.size = hh at *
   have fin := uh st1111 _ wS2 wT2 wR2 x1 hx1 g hg k hk0 hk3 hh hhb hhr hhw wH2
   rw [uh HF] at fin
   exact fin
 have st1100 : Hid (∀ (wx : World) (wS : Hid (Src wx b a cap l (M + 3))) (wT : Hid (Touch (fun k => k = b) w wx)) (wR : Hid (Blk wx rb [.int .i64 0, .int .i64 0, .int .i64 0, .string ⟨#[]⟩, .string ⟨#[]⟩])) (x1 : Nat) (hx1 : x1 < 5) (g : Nat) (hg : g ≠ b) (wB : Hid (Blk wx g [.int .i64 1, .int .i64 1, .int .i64 2, .int .i64 2, .int .i64 3])), F 10 #[true, true, true, true, false, true, false, false, true, false, false, true, false, true, false, false, false, false] ⟨#[.pointer (some ⟨b, 0, none⟩), undef, .pointer (some ⟨rb, 0, none⟩), undef, .slice (some ⟨g, 0, none⟩) 5 5, .pointer (some ⟨b, 0, none⟩), .int .i64 (x1 : Int), .pointer (some ⟨g, x1, none⟩), undef, .pointer (some ⟨b, 0, none⟩), undef, undef, .pointer (some ⟨b, 0, none⟩), undef, undef, .pointer (some ⟨b, 0, none⟩), undef, .pointer (some ⟨b, 0, none⟩), undef, undef, undef, undef, undef, undef, undef, undef, undef, undef, undef, undef, undef, undef, undef, undef], []⟩ wx) := by
  clear st5111 st5101 st5001 st4111 st4101 st4001 st3111 st3101 st3001 st2111 st2101 st2001 st1111 st1001 st0101 st0001 st5110 st5100 st5000 st4110 st4100 st4000 st3110 st3100 st3000 st2110 st2000
  clear S0 T0 R0
  refine Hd ?_
  intro wx wS wT wR x1 hx1 g hg wB
  rw [uh HF]
  refine rdy3 4 6 16 rfl rfl rfl (fun K hK => ?_) (fun K hK => ?_) (fun K hK => ?_)
  ·obtain ⟨k, hk0, hk3, hc⟩ : ∃ k : Int, 1 ≤ k ∧ k ≤ 3 ∧ wx.cell? ⟨g, x1, none⟩ = some (.int .i64 k) := by
    have hB := uh wB
    match x1, hx1 with
    | 0, _ => exact ⟨1, by omega, by omega, hB.cell 0 rfl⟩
    | 1, _ => exact ⟨1, by omega, by omega, hB.cell 1 rfl⟩
    | 2, _ => exact ⟨2, by omega, by omega, hB.cell 2 rfl⟩
    | 3, _ => exact ⟨2, by omega, by omega, hB.cell 3 rfl⟩
    | 4, _ => exact ⟨3, by omega, by omega, hB.cell 4 rfl⟩
   clear wB
   have wS2 := wS
   have wT2 := wT
   have wR2 := wR
   go_simp
   refine hK.out _ _ trivial (fun hHeld => ?_)
   clear hK K
   (try simp only [Act.put, List.getElem_toArray, List.getElem_cons_succ, List.getElem_cons_zero, List.setIfInBounds_toArray, List.set_cons_zero, List.set_cons_succ])
   have fin := uh st1110 _ wS2 wT2 wR2 x1 hx1 g hg k hk0 hk3
   rw [uh HF] at fin
   exact fin
  ·go_simp
   refine (srcNext_any 3 wx b a cap l (M + 3) (uh wS) (by omega) (by omega) (by omega)).mono ?_
   rintro e wy ⟨x2, rfl, hx2, hx2b, hS, hO⟩
   have wr : IntKind.i64.wrap (1 + x2) = 1 + x2 := wrapS _ (by omega) (by omega)
   have hTT := hO.touch
   have wS2 : Hid (Src wy b a cap l (M + 6)) := Hd (hS.mono (by omega))
   have wT2 : Hid (Touch (fun k => k = b) w wy) := Hd ((uh wT).trans hTT (fun _ _ h => h))
   have wR2 : Hid (Blk wy rb [.int .i64 0, .int .i64 0, .int .i64 0, .string ⟨#[]⟩, .string ⟨#[]⟩]) := Hd ((uh wR).kept hTT hrb)
   have wB2 : Hid (Blk wy g [.int .i64 1, .int .i64 1, .int .i64 2, .int .i64 2, .int .i64 3]) := Hd ((uh wB).kept hTT hg)
   clear hS hTT wS wT wR
   clear wB
   go_wp2_with fail
   refine hK.out _ _ trivial (fun hHeld => ?_)
   clear hK K
   (try simp only [Act.put, List.getElem_toArray, List.getElem_cons_succ, List.getElem_cons_zero, List.setIfInBounds_toArray, List.set_cons_zero, List.set_cons_succ])
   refine wpAnyH_take (i := 7) (oi := _) (v := ?_) rfl (by kernel_rfl) (by kernel_rfl) (by kernel_rfl) (fun _ _ _ h => h) (Or.inl ⟨by rfl, ?_⟩) trivial ?_
   rotate_left 1
   ·(intro wq hSw; (try simp only [List.getElem_toArray, List.getElem_cons_succ, List.getElem_cons_zero]); go_simp; try with_reducible rfl)
   (try simp only [Act.put, List.getElem_toArray, List.getElem_cons_succ, List.getElem_cons_zero, List.setIfInBounds_toArray, List.set_cons_zero, List.set_cons_succ])
   have fin := uh st2100 _ wS2 wT2 wR2 x1 hx1 x2 hx2 hx2b g hg wB2
   rw [uh HF] at fin
   exact fin
  ·have wH2 : Hid (Blk (wx.alloc (.cells #[.int .i64 0, .int .i64 0, .int .i64 0, .string ⟨#[]⟩, .string ⟨#[]⟩] 31)) wx.heap.size [.int .i64 0, .int .i64 0, .int .i64 0, .string ⟨#[]⟩, .string ⟨#[]⟩]) := Hd (Blk.new wx #[.int .i64 0, .int .i64 0, .int .i64 0, .string ⟨#[]⟩, .string ⟨#[]⟩] 31 wx.heap.size rfl)
   have wS2 : Hid (Src (wx.alloc (.cells #[.int .i64 0, .int .i64 0, .int .i64 0, .string ⟨#[]⟩, .string ⟨#[]⟩] 31)) b a cap l (M + 3)) := Hd ((uh wS).alloc _)
   have wT2 : Hid (Touch (fun k => k = b) w (wx.alloc (.cells #[.int .i64 0, .int .i64 0, .int .i64 0, .string ⟨#[]⟩, .string ⟨#[]⟩] 31))) := Hd ((uh wT).alloc _)
   have wR2 : Hid (Blk (wx.alloc (.cells #[.int .i64 0, .int .i64 0, .int .i64 0, .string ⟨#[]⟩, .string ⟨#[]⟩] 31)) rb [.int .i64 0, .int .i64 0, .int .i64 0, .string ⟨#[]⟩, .string ⟨#[]⟩]) := Hd ((uh wR).alloc _)
   have hhb : wx.heap.size ≠ b := by have := (uh wS).lt; omega
   have hhr : wx.heap.size ≠ rb := by have := (uh wR).1; omega
   have hhw : w.heap.size ≤ wx.heap.size := (uh wT).size
   have wB2 : Hid (Blk (wx.alloc (.cells #[.int .i64 0, .int .i64 0, .int .i64 0, .string ⟨#[]⟩, .string ⟨#[]⟩] 31)) g [.int .i64 1, .int .i64 1, .int .i64 2, .int .i64 2, .int .i64 3]) := Hd ((uh wB).alloc _)
   clear wB
   clear wS wT wR
   go_simp
   refine hK.out _ _ trivial (fun hHeld => ?_)
   clear hK K
   (try simp only [Act.put, List.getElem_toArray, List.getElem_cons_succ, List.getElem_cons_zero, List.setIfInBounds_toArray, List.set_cons_zero, List.set_cons_succ])
   generalize wx.alloc (.cells #[.int .i64 0, .int .i64 0, .int .i64 0, .string ⟨#[]⟩, .string ⟨#[]⟩] 31) = wy at *
   generalize wx.heap.size = hh at *
   have fin := uh st1101 _ wS2 wT2 wR2 x1 hx1 g hg wB2 hh hhb hhr hhw wH2
   rw [uh HF] at fin
   exact fin
 have st1000 : Hid (∀ (wx : World) (wS : Hid (Src wx b a cap l (M + 3))) (wT : Hid (Touch (fun k => k = b) w wx)) (wR : Hid (Blk wx rb [.int .i64 0, .int .i64 0, .int .i64 0, .string ⟨#[]⟩, .string ⟨#[]⟩])) (x1 : Nat) (hx1 : x1 < 5), F 12 #[false, true, true, false, false, true, false, false, true, false, false, true, false, true, false, false, false, false] ⟨#[.pointer (some ⟨b, 0, none⟩), undef, .pointer (some ⟨rb, 0, none⟩), undef, undef, .pointer (some ⟨b, 0, none⟩), .int .i64 (x1 : Int), undef, undef, .pointer (some ⟨b, 0, none⟩), undef, undef, .pointer (some ⟨b, 0, none⟩), undef, undef, .pointer (some ⟨b, 0, none⟩), undef, .pointer (some ⟨b, 0, none⟩), undef, undef, undef, undef, undef, undef, undef, undef, undef, undef, undef, undef, undef, undef, undef, undef], []⟩ wx) := by
  clear st5111 st5101 st5001 st4111 st4101 st4001 st3111 st3101 st3001 st2111 st2101 st2001 st1111 st1101 st0101 st0001 st5110 st5100 st5000 st4110 st4100 st4000 st3110 st3100 st3000 st2110 st2100 st1110
  clear S0 T0 R0
  refine Hd ?_
  intro wx wS wT wR x1 hx1
  rw [uh HF]
  refine rdy3 0 6 16 rfl rfl rfl (fun K hK => ?_) (fun K hK => ?_) (fun K hK => ?_)
  ·have wB2 : Hid (Blk (wx.alloc (.cells #[.int .i64 1, .int .i64 1, .int .i64 2, .int .i64 2, .int .i64 3] 3)) wx.heap.size [.int .i64 1, .int .i64 1, .int .i64 2, .int .i64 2, .int .i64 3]) := Hd (Blk.new wx #[.int .i64 1, .int .i64 1, .int .i64 2, .int .i64 2, .int .i64 3] 3 wx.heap.size rfl)
   have wS2 : Hid (Src (wx.alloc (.cells #[.int .i64 1, .int .i64 1, .int .i64 2, .int .i64 2, .int .i64 3] 3)) b a cap l (M + 3)) := Hd ((uh wS).alloc _)
   have wT2 : Hid (Touch (fun k => k = b) w (wx.alloc (.cells #[.int .i64 1, .int .i64 1, .int .i64 2, .int .i64 2, .int .i64 3] 3))) := Hd ((uh wT).alloc _)
   have wR2 : Hid (Blk (wx.alloc (.cells #[.int .i64 1, .int .i64 1, .int .i64 2, .int .i64 2, .int .i64 3] 3)) rb [.int .i64 0, .int .i64 0, .int .i64 0, .string ⟨#[]⟩, .string ⟨#[]⟩]) := Hd ((uh wR).alloc _)
   have hg : wx.heap.size ≠ b := by have := (uh wS).lt; omega
   clear wS wT wR
   go_simp
   refine hK.out _ _ trivial (fun hHeld => ?_)
   clear hK K
   (try simp only [Act.put, List.getElem_toArray, List.getElem_cons_succ, List.getElem_cons_zero, List.setIfInBounds_toArray, List.set_cons_zero, List.set_cons_succ])
   generalize wx.alloc (.cells #[.int .i64 1, .int .i64 1, .int .i64 2, .int .i64 2, .int .i64 3] 3) = wy at *
   generalize wx.heap.size = g at *
   have hx1i : (x1 : Int) < 5 := by omega
   have hx1j : 0 ≤ (x1 : Int) := by omega
   refine wpAnyH_take (i := 3) (oi := _) (v := ?_) rfl (by kernel_rfl) (by kernel_rfl) (by kernel_rfl) (fun _ _ _ h => h) (Or.inl ⟨by rfl, ?_⟩) trivial ?_
   rotate_left 1
   ·(intro wq hSw; (try simp only [List.getElem_toArray, List.getElem_cons_succ, List.getElem_cons_zero]); go_simp; try with_reducible rfl)
   (try simp only [Act.put, List.getElem_toArray, List.getElem_cons_succ, List.getElem_cons_zero, List.setIfInBounds_toArray, List.set_cons_zero, List.set_cons_succ])
   have fin := uh st1100 _ wS2 wT2 wR2 x1 hx1 g hg wB2
   rw [uh HF] at fin
   exact fin
  ·go_simp
   refine (srcNext_any 3 wx b a cap l (M + 3) (uh wS) (by omega) (by omega) (by omega)).mono ?_
   rintro e wy ⟨x2, rfl, hx2, hx2b, hS, hO⟩
   have wr : IntKind.i64.wrap (1 + x2) = 1 + x2 := wrapS _ (by omega) (by omega)
   have hTT := hO.touch
   have wS2 : Hid (Src wy b a cap l (M + 6)) := Hd (hS.mono (by omega))
   have wT2 : Hid (Touch (fun k => k = b) w wy) := Hd ((uh wT).trans hTT (fun _ _ h => h))
   have wR2 : Hid (Blk wy rb [.int .i64 0, .int .i64 0, .int .i64 0, .string ⟨#[]⟩, .string ⟨#[]⟩]) := Hd ((uh wR).kept hTT hrb)
   clear hS hTT wS wT wR
   go_wp2_with fail
   refine hK.out _ _ trivial (fun hHeld => ?_)
   clear hK K
   (try simp only [Act.put, List.getElem_toArray, List.getElem_cons_succ, List.getElem_cons_zero, List.setIfInBounds_toArray, List.set_cons_zero, List.set_cons_succ])
   refine wpAnyH_take (i := 7) (oi := _) (v := ?_) rfl (by kernel_rfl) (by kernel_rfl) (by kernel_rfl) (fun _ _ _ h => h) (Or.inl ⟨by rfl, ?_⟩) trivial ?_
   rotate_left 1
   ·(intro wq hSw; (try simp only [List.getElem_toArray, List.getElem_cons_succ, List.getElem_cons_zero]); go_simp; try with_reducible rfl)
   (try simp only [Act.put, List.getElem_toArray, List.getElem_cons_succ, List.getElem_cons_zero, List.setIfInBounds_toArray, List.set_cons_zero, List.set_cons_succ])
   have fin := uh st2000 _ wS2 wT2 wR2 x1 hx1 x2 hx2 hx2b
   rw [uh HF] at fin
   exact fin
  ·have wH2 : Hid (Blk (wx.alloc (.cells #[.int .i64 0, .int .i64 0, .int .i64 0, .string ⟨#[]⟩, .string ⟨#[]⟩] 31)) wx.heap.size [.int .i64 0, .int .i64 0, .int .i64 0, .string ⟨#[]⟩, .string ⟨#[]⟩]) := Hd (Blk.new wx #[.int .i64 0, .int .i64 0, .int .i64 0, .string ⟨#[]⟩, .string ⟨#[]⟩] 31 wx.heap.size rfl)
   have wS2 : Hid (Src (wx.alloc (.cells #[.int .i64 0, .int .i64 0, .int .i64 0, .string ⟨#[]⟩, .string ⟨#[]⟩] 31)) b a cap l (M + 3)) := Hd ((uh wS).alloc _)
   have wT2 : Hid (Touch (fun k => k = b) w (wx.alloc (.cells #[.int .i64 0, .int .i64 0, .int .i64 0, .string ⟨#[]⟩, .string ⟨#[]⟩] 31))) := Hd ((uh wT).alloc _)
   have wR2 : Hid (Blk (wx.alloc (.cells #[.int .i64 0, .int .i64 0, .int .i64 0, .string ⟨#[]⟩, .string ⟨#[]⟩] 31)) rb [.int .i64 0, .int .i64 0, .int .i64 0, .string ⟨#[]⟩, .string ⟨#[]⟩]) := Hd ((uh wR).alloc _)
   have hhb : wx.heap.size ≠ b := by have := (uh wS).lt; omega
   have hhr : wx.heap.size ≠ rb := by have := (uh wR).1; omega
   have hhw : w.heap.size ≤ wx.heap.size := (uh wT).size
   clear wS wT wR
   go_simp
   refine hK.out _ _ trivial (fun hHeld => ?_)
   clear hK K
   (try simp only [Act.put, List.getElem_toArray, List.getElem_cons_succ, List.getElem_cons_zero, List.setIfInBounds_toArray, List.set_cons_zero, List.set_cons_succ])
   generalize wx.alloc (.cells #[.int .i64 0, .int .i64 0, .int .i64 0, .string ⟨#[]⟩, .string ⟨#[]⟩] 31) = wy at *
   generalize wx.heap.size = hh at *
   have fin := uh st1001 _ wS2 wT2 wR2 x1 hx1 hh hhb hhr hhw wH2
   rw [uh HF] at fin
   exact fin
 have st0100 : Hid (∀ (wx : World) (wS : Hid (Src wx b a cap l (M + 0))) (wT : Hid (Touch (fun k => k = b) w wx)) (wR : Hid (Blk wx rb [.int .i64 0, .int .i64 0, .int .i64 0, .string ⟨#[]⟩, .string ⟨#[]⟩])) (g : Nat) (hg : g ≠ b) (wB : Hid (Blk wx g [.int .i64 1, .int .i64 1, .int .i64 2, .int .i64 2, .int .i64 3])), F 12 #[true, true, false, false, false, true, false, false, true, false, false, true, false, true, false, false, false, false] ⟨#[.pointer (some ⟨b, 0, none⟩), undef, .pointer (some ⟨rb, 0, none⟩), undef, .slice (some ⟨g, 0, none⟩) 5 5, .pointer (some ⟨b, 0, none⟩), undef, undef, undef, .pointer (some ⟨b, 0, none⟩), undef, undef, .pointer (some ⟨b, 0, none⟩), undef, undef, .pointer (some ⟨b, 0, none⟩), undef, .pointer (some ⟨b, 0, none⟩), undef, undef, undef, undef, undef, undef, undef, undef, undef, undef, undef, undef, undef, undef, undef, undef], []⟩ wx) := by
  clear st5111 st5101 st5001 st4111 st4101 st4001 st3111 st3101 st3001 st2111 st2101 st2001 st1111 st1101 st1001 st0001 st5110 st5100 st5000 st4110 st4100 st4000 st3110 st3100 st3000 st2110 st2100 st2000 st1110 st1000
  clear S0 T0 R0
  refine Hd ?_
  intro wx wS wT wR g hg wB
  rw [uh HF]
  refine rdy2 2 16 rfl rfl (fun K hK => ?_) (fun K hK => ?_)
  ·go_simp
   refine (srcNext_any 5 wx b a cap l (M + 0) (uh wS) (by omega) (by omega) (by omega)).mono ?_
   rintro e wy ⟨y, rfl, hy0, hy1, hS, hO⟩
   obtain ⟨x1, rfl⟩ : ∃ x1 : Nat, y = (x1 : Int) := ⟨y.toNat, by omega⟩
   have hx1 : x1 < 5 := by omega
   have hx1i : (x1 : Int) < 5 := by omega
   have hx1j : 0 ≤ (x1 : Int) := by omega
   have hTT := hO.touch
   have wS2 : Hid (Src wy b a cap l (M + 3)) := Hd (hS.mono (by omega))
   have wT2 : Hid (Touch (fun k => k = b) w wy) := Hd ((uh wT).trans hTT (fun _ _ h => h))
   have wR2 : Hid (Blk wy rb [.int .i64 0, .int .i64 0, .int .i64 0, .string ⟨#[]⟩, .string ⟨#[]⟩]) := Hd ((uh wR).kept hTT hrb)
   have wB2 : Hid (Blk wy g [.int .i64 1, .int .i64 1, .int .i64 2, .int .i64 2, .int .i64 3]) := Hd ((uh wB).kept hTT hg)
   clear hS hTT wS wT wR
   clear wB
   go_wp2_with fail
   refine hK.out _ _ trivial (fun hHeld => ?_)
   clear hK K
   (try simp only [Act.put, List.getElem_toArray, List.getElem_cons_succ, List.getElem_cons_zero, List.setIfInBounds_toArray, List.set_cons_zero, List.set_cons_succ])
   refine wpAnyH_take (i := 3) (oi := _) (v := ?_) rfl (by kernel_rfl) (by kernel_rfl) (by kernel_rfl) (fun _ _ _ h => h) (Or.inl ⟨by rfl, ?_⟩) trivial ?_
   rotate_left 1
   ·(intro wq hSw; (try simp only [List.getElem_toArray, List.getElem_cons_succ, List.getElem_cons_zero]); go_simp; try with_reducible rfl)
   (try simp only [Act.put, List.getElem_toArray, List.getElem_cons_succ, List.getElem_cons_zero, List.setIfInBounds_toArray, List.set_cons_zero, List.set_cons_succ])
   have fin := uh st1100 _ wS2 wT2 wR2 x1 hx1 g hg wB2
   rw [uh HF] at fin
   exact fin
  ·have wH2 : Hid (Blk (wx.alloc (.cells #[.int .i64 0, .int .i64 0, .int .i64 0, .string ⟨#[]⟩, .string ⟨#[]⟩] 31)) wx.heap.size [.int .i64 0, .int .i64 0, .int .i64 0, .string ⟨#[]⟩, .string ⟨#[]⟩]) := Hd (Blk.new wx #[.int .i64 0, .int .i64 0, .int .i64 0, .string ⟨#[]⟩, .string ⟨#[]⟩] 31 wx.heap.size rfl)
   have wS2 : Hid (Src (wx.alloc (.cells #[.int .i64 0, .int .i64 0, .int .i64 0, .string ⟨#[]⟩, .string ⟨#[]⟩] 31)) b a cap l (M + 0)) := Hd ((uh wS).alloc _)
   have wT2 : Hid (Touch (fun k => k = b) w (wx.alloc (.cells #[.int .i64 0, .int .i64 0, .int .i64 0, .string ⟨#[]⟩, .string ⟨#[]⟩] 31))) := Hd ((uh wT).alloc _)
   have wR2 : Hid (Blk (wx.alloc (.cells #[.int .i64 0, .int .i64 0, .int .i64 0, .string ⟨#[]⟩, .string ⟨#[]⟩] 31)) rb [.int .i64 0, .int .i64 0, .int .i64 0, .string ⟨#[]⟩, .string ⟨#[]⟩]) := Hd ((uh wR).alloc _)
   have hhb : wx.heap.size ≠ b := by have := (uh wS).lt; omega
   have hhr : wx.heap.size ≠ rb := by have := (uh wR).1; omega
   have hhw : w.heap.size ≤ wx.heap.size := (uh wT).size
   have wB2 : Hid (Blk (wx.alloc (.cells #[.int .i64 0, .int .i64 0, .int .i64 0, .string ⟨#[]⟩, .string ⟨#[]⟩] 31)) g [.int .i64 1, .int .i64 1, .int .i64 2, .int .i64 2, .int .i64 3]) := Hd ((uh wB).alloc _)
   clear wB
   clear wS wT wR
   go_simp
   refine hK.out _ _ trivial (fun hHeld => ?_)
   clear hK K
   (try simp only [Act.put, List.getElem_toArray, List.getElem_cons_succ, List.getElem_cons_zero, List.setIfInBounds_toArray, List.set_cons_zero, List.set_cons_succ])
   generalize wx.alloc (.cells #[.int .i64 0, .int .i64 0, .int .i64 0, .string ⟨#[]⟩, .string ⟨#[]⟩] 31) = wy at *
   generalize wx.heap.size = hh at *
   have fin := uh st0101 _ wS2 wT2 wR2 g hg wB2 hh hhb hhr hhw wH2
   rw [uh HF] at fin
   exact fin
 have st0000 : Hid (∀ (wx : World) (wS : Hid (Src wx b a cap l (M + 0))) (wT : Hid (Touch (fun k => k = b) w wx)) (wR : Hid (Blk wx rb [.int .i64 0, .int .i64 0, .int .i64 0, .string ⟨#[]⟩, .string ⟨#[]⟩])) , F 13 #[false, true, false, false, false, true, false, false, true, false, false, true, false, true, false, false, false, false] ⟨#[.pointer (some ⟨b, 0, none⟩), undef, .pointer (some ⟨rb, 0, none⟩), undef, undef, .pointer (some ⟨b, 0, none⟩), undef, undef, undef, .pointer (some ⟨b, 0, none⟩), undef, undef, .pointer (some ⟨b, 0, none⟩), undef, undef, .pointer (some ⟨b, 0, none⟩), undef, .pointer (some ⟨b, 0, none⟩), undef, undef, undef, undef, undef, undef, undef, undef, undef, undef, undef, undef, undef, undef, undef, undef], []⟩ wx) := by
  clear st5111 st5101 st5001 st4111 st4101 st4001 st3111 st3101 st3001 st2111 st2101 st2001 st1111 st1101 st1001 st0101 st5110 st5100 st5000 st4110 st4100 st4000 st3110 st3100 st3000 st2110 st2100 st2000 st1110 st1100
  clear S0 T0 R0
  refine Hd ?_
  intro wx wS wT wR 
  rw [uh HF]
  refine rdy3 0 2 16 rfl rfl rfl (fun K hK => ?_) (fun K hK => ?_) (fun K hK => ?_)
  ·have wB2 : Hid (Blk (wx.alloc (.cells #[.int .i64 1, .int .i64 1, .int .i64 2, .int .i64 2, .int .i64 3] 3)) wx.heap.size [.int .i64 1, .int .i64 1, .int .i64 2, .int .i64 2, .int .i64 3]) := Hd (Blk.new wx #[.int .i64 1, .int .i64 1, .int .i64 2, .int .i64 2, .int .i64 3] 3 wx.heap.size rfl)
   have wS2 : Hid (Src (wx.alloc (.cells #[.int .i64 1, .int .i64 1, .int .i64 2, .int .i64 2, .int .i64 3] 3)) b a cap l (M + 0)) := Hd ((uh wS).alloc _)
   have wT2 : Hid (Touch (fun k => k = b) w (wx.alloc (.cells #[.int .i64 1, .int .i64 1, .int .i64 2, .int .i64 2, .int .i64 3] 3))) := Hd ((uh wT).alloc _)
   have wR2 : Hid (Blk (wx.alloc (.cells #[.int .i64 1, .int .i64 1, .int .i64 2, .int .i64 2, .int .i64 3] 3)) rb [.int .i64 0, .int .i64 0, .int .i64 0, .string ⟨#[]⟩, .string ⟨#[]⟩]) := Hd ((uh wR).alloc _)
   have hg : wx.heap.size ≠ b := by have := (uh wS).lt; omega
   clear wS wT wR
   go_simp
   refine hK.out _ _ trivial (fun hHeld => ?_)
   clear hK K
   (try simp only [Act.put, List.getElem_toArray, List.getElem_cons_succ, List.getElem_cons_zero, List.setIfInBounds_toArray, List.set_cons_zero, List.set_cons_succ])
   generalize wx.alloc (.cells #[.int .i64 1, .int .i64 1, .int .i64 2, .int .i64 2, .int .i64 3] 3) = wy at *
   generalize wx.heap.size = g at *
   have fin := uh st0100 _ wS2 wT2 wR2 g hg wB2
   rw [uh HF] at fin
   exact fin
  ·go_simp
   refine (srcNext_any 5 wx b a cap l (M + 0) (uh wS) (by omega) (by omega) (by omega)).mono ?_
   rintro e wy ⟨y, rfl, hy0, hy1, hS, hO⟩
   obtain ⟨x1, rfl⟩ : ∃ x1 : Nat, y = (x1 : Int) := ⟨y.toNat, by omega⟩
   have hx1 : x1 < 5 := by omega
   have hx1i : (x1 : Int) < 5 := by omega
   have hx1j : 0 ≤ (x1 : Int) := by omega
   have hTT := hO.touch
   have wS2 : Hid (Src wy b a cap l (M + 3)) := Hd (hS.mono (by omega))
   have wT2 : Hid (Touch (fun k => k = b) w wy) := Hd ((uh wT).trans hTT (fun _ _ h => h))
   have wR2 : Hid (Blk wy rb [.int .i64 0, .int .i64 0, .int .i64 0, .string ⟨#[]⟩, .string ⟨#[]⟩]) := Hd ((uh wR).kept hTT hrb)
   clear hS hTT wS wT wR
   go_wp2_with fail
   refine hK.out _ _ trivial (fun hHeld => ?_)
   clear hK K
   (try simp only [Act.put, List.getElem_toArray, List.getElem_cons_succ, List.getElem_cons_zero, List.setIfInBounds_toArray, List.set_cons_zero, List.set_cons_succ])
   have fin := uh st1000 _ wS2 wT2 wR2 x1 hx1
   rw [uh HF] at fin
   exact fin
  ·have wH2 : Hid (Blk (wx.alloc (.cells #[.int .i64 0, .int .i64 0, .int .i64 0, .string ⟨#[]⟩, .string ⟨#[]⟩] 31)) wx.heap.size [.int .i64 0, .int .i64 0, .int .i64 0, .string ⟨#[]⟩, .string ⟨#[]⟩]) := Hd (Blk.new wx #[.int .i64 0, .int .i64 0, .int .i64 0, .string ⟨#[]⟩, .string ⟨#[]⟩] 31 wx.heap.size rfl)
   have wS2 : Hid (Src (wx.alloc (.cells #[.int .i64 0, .int .i64 0, .int .i64 0, .string ⟨#[]⟩, .string ⟨#[]⟩] 31)) b a cap l (M + 0)) := Hd ((uh wS).alloc _)
   have wT2 : Hid (Touch (fun k => k = b) w (wx.alloc (.cells #[.int .i64 0, .int .i64 0, .int .i64 0, .string ⟨#[]⟩, .string ⟨#[]⟩] 31))) := Hd ((uh wT).alloc _)
   have wR2 : Hid (Blk (wx.alloc (.cells #[.int .i64 0, .int .i64 0, .int .i64 0, .string ⟨#[]⟩, .string ⟨#[]⟩] 31)) rb [.int .i64 0, .int .i64 0, .int .i64 0, .string ⟨#[]⟩, .string ⟨#[]⟩]) := Hd ((uh wR).alloc _)
   have hhb : wx.heap.size ≠ b := by have := (uh wS).lt; omega
   have hhr : wx.heap.size ≠ rb := by have := (uh wR).1; omega
   have hhw : w.heap.size ≤ wx.heap.size := (uh wT).size
   clear wS wT wR
   go_simp
   refine hK.out _ _ trivial (fun hHeld => ?_)
   clear hK K
   (try simp only [Act.put, List.getElem_toArray, List.getElem_cons_succ, List.getElem_cons_zero, List.setIfInBounds_toArray, List.set_cons_zero, List.set_cons_succ])
   generalize wx.alloc (.cells #[.int .i64 0, .int .i64 0, .int .i64 0, .string ⟨#[]⟩, .string ⟨#[]⟩] 31) = wy at *
   generalize wx.heap.size = hh at *
   have fin := uh st0001 _ wS2 wT2 wR2 hh hhb hhr hhw wH2
   rw [uh HF] at fin
   exact fin
 exact uh st0000 _ (Hd ((uh S0).mono (by omega))) T0 R0
end Go.Proofs.YtlbcdngidfjogaaGreatDoor
