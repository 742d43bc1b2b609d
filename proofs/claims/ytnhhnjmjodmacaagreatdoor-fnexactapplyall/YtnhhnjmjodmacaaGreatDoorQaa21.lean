/- What the proof of the claim needs (joined by program): BrIn. -/
import Derived.Test.YtnhhnjmjodmacaaGreatDoorQaa17
import Derived.Test.YtnhhnjmjodmacaaGreatDoorQaa20
import Derived.Deep.DeepCutAuto
namespace Go.Proofs.YtnhhnjmjodmacaaGreatDoor.Sha
set_option maxRecDepth 100000
set_option maxHeartbeats 8000000
open Go.ChangeShapes Go.WideShapes Go.ChangeAt Go.RowKit
set_option linter.unusedVariables false
set_option linter.unusedSimpArgs false
theorem own_lit4 {w : World} {B X : Nat} {cs : Array Value} (h : w.heap[X]? = some (.cells cs 35 (0, 0))) (hB : B ≤ X) (hn : cs.size = 8) : w.ownsRow B 35 4 (.slice (some ⟨X, 0, none⟩) 2 2) 2 cs.toList :=
 ⟨by simp [hn], .inr ⟨X, 2, cs, rfl, hB, h, Nat.le_refl _, by unfold maxLen; omega, by simp [hn], by rw [show 2 * 4 = cs.size from hn.symm, ← Array.length_toList, List.take_length]⟩⟩
theorem l07Insert_build (k v h : ByteArray) (hh : h.size = 32) (at_ : Nat) (ha : at_ < 256) (hkv : TrOK (.leaf k v)) (t : Tr) (hok : TrOK t) (hc : t.toBr.kids.length = 0 ∨ (at_ : Int) < t.toBr.at_) (B0 : Nat → Prop) (kv : Value) (w : World) (hB0 : ∀ x, B0 x → x < w.heap.size) (hB : Brs B0 w kv t.toBr.kids) :
  Calls Tryz.prog 110 #[.agg #[.string t.toBr.key, .string t.toBr.val, .int .i64 t.toBr.at_, kv], .string h, .int .i64 at_, .agg #[.string k, .string v, .int .i64 256, .slice none 0 0]] w fun e w' => DrR B0 (forkT at_ h k v t).toBr w e w' := by
 obtain ⟨sa, cap, rfl, hcap, hcm⟩ := hB.shape
 have HZT := Hd (toBr_small hok)
 have HZK := Hd (toBr_small hkv)
 have HLF := Hd (fun wx => l07Leaf_any t.toBr.key t.toBr.val t.toBr.at_ sa t.toBr.kids.length cap wx (by unfold maxLen at hcm ⊢; omega))
 have HBT := Hd (fun wx => l07Bit_any h at_ wx hh ha)
 have HKB := Hd hB
 have B1 := Hd (((bal w (.cells #[.string t.toBr.key, .string t.toBr.val, .int .i64 t.toBr.at_, .slice sa t.toBr.kids.length cap] 35)).alloc (by simp) (.cells #[.string k, .string v, .int .i64 256, .slice none 0 0] 35)).alloc (by simp; omega) (.cells #[.string ⟨#[]⟩, .string ⟨#[]⟩, .int .i64 0, .slice none 0 0] 35))
 have X1 := Hd (((Blk.new w #[.string t.toBr.key, .string t.toBr.val, .int .i64 t.toBr.at_, .slice sa t.toBr.kids.length cap] 35 w.heap.size rfl).alloc (.cells #[.string k, .string v, .int .i64 256, .slice none 0 0] 35)).alloc (.cells #[.string ⟨#[]⟩, .string ⟨#[]⟩, .int .i64 0, .slice none 0 0] 35))
 have L1 := Hd ((Blk.new (w.alloc (.cells #[.string t.toBr.key, .string t.toBr.val, .int .i64 t.toBr.at_, .slice sa t.toBr.kids.length cap] 35)) #[.string k, .string v, .int .i64 256, .slice none 0 0] 35 (w.heap.size + 1) (by simp)).alloc (.cells #[.string ⟨#[]⟩, .string ⟨#[]⟩, .int .i64 0, .slice none 0 0] 35))
 have R1 := Hd (Blk.new ((w.alloc (.cells #[.string t.toBr.key, .string t.toBr.val, .int .i64 t.toBr.at_, .slice sa t.toBr.kids.length cap] 35)).alloc (.cells #[.string k, .string v, .int .i64 256, .slice none 0 0] 35)) #[.string ⟨#[]⟩, .string ⟨#[]⟩, .int .i64 0, .slice none 0 0] 35 (w.heap.size + 1 + 1) (by simp))
 have HRS := Hd (show w.heap.size < w.heap.size + 1 + 1 by omega)
 have hne : ((at_ : Int) == 256) = false := by rw [beq_eq_false_iff_ne]; omega
 clear hB hok hkv
 go_enter Tryz.func110, Tryz.ntmps110
 go_upto_region 3 with fail
 generalize ((w.alloc (.cells #[.string t.toBr.key, .string t.toBr.val, .int .i64 t.toBr.at_, .slice sa t.toBr.kids.length cap] 35)).alloc (.cells #[.string k, .string v, .int .i64 256, .slice none 0 0] 35)).alloc (.cells #[.string ⟨#[]⟩, .string ⟨#[]⟩, .int .i64 0, .slice none 0 0] 35) = w1 at *
 generalize w.heap.size + 1 + 1 = R at *
 generalize w.heap.size + 1 = L at *
 have x0 := (uh X1).cell 0 rfl
 have x1 := (uh X1).cell 1 rfl
 have x2 := (uh X1).cell 2 rfl
 have x3 := (uh X1).cell 3 rfl
 go_cut [25] (fun s wx => s = .bool true ∧ Below w1.heap.size w1 wx)
 case first =>
  cases hlf : decide (t.toBr.kids.length = 0)
  ·have hlt : (at_ : Int) < t.toBr.at_ := by
    rcases hc with h0 | h0
    ·rw [decide_eq_true h0] at hlf; cases hlf
    ·exact h0
   rw [hlf] at HLF
   clear hc hlf
   go_wp2_with fail
   refine (uh HLF w1).mono ?_
   rintro e w2 ⟨rfl, hb2⟩
   have HB2 := Hd hb2
   have y2 := ((uh X1).below hb2).cell 2 rfl
   clear hb2
   go_wp2_with fail
   go_meet
   exact ⟨by first | rfl | simp [hlt], uh HB2⟩
  ·rw [hlf] at HLF
   clear hc hlf
   go_wp2_with fail
   refine (uh HLF w1).mono ?_
   rintro e w2 ⟨rfl, hb2⟩
   have HB2 := Hd hb2
   clear hb2
   go_wp2_with fail
   go_meet
   exact ⟨rfl, uh HB2⟩
 case rest =>
  obtain ⟨rfl, hbc⟩ := hcut
  obtain ⟨w2, hw2⟩ : ∃ w2, w2 = wc := ⟨_, rfl⟩
  subst hw2
  have B2 := hbt B1 hbc
  have R2 := Hd ((uh R1).below hbc)
  have X2 := (uh X1).below hbc
  have L2 := (uh L1).below hbc
  clear x0 x1 x2 x3 hbc B1 X1 R1 L1 hc
  have x0 := X2.cell 0 rfl
  have x1 := X2.cell 1 rfl
  have x2 := X2.cell 2 rfl
  have x3 := X2.cell 3 rfl
  have l0 := L2.cell 0 rfl
  have l1 := L2.cell 1 rfl
  have l2 := L2.cell 2 rfl
  have l3 := L2.cell 3 rfl
  clear X2 L2
  rcases bitN_01 h at_ with hb | hb
  ·have HF : Hid (forkT at_ h k v t = .fork at_ h (.leaf k v) t) := Hd (by unfold forkT; rw [if_pos hb])
   rw [hb] at HBT
   have HGR2 : Hid (∀ sa n cap w', Brs (fun x => B0 x ∨ w.heap.size ≤ x) w' (.slice sa n cap) [Br.mk k v 256 [], t.toBr] → Below w.heap.size w w' → DrR B0 (forkT at_ h k v t).toBr w (.returned (.agg #[.string ⟨#[]⟩, .string ⟨#[]⟩, .int .i64 at_, .slice sa n cap])) w') := Hd (fun sa n cap w' h1 hb => by rw [uh HF]; exact ⟨sa, n, cap, rfl, h1, hb⟩)
   have BA := bal w2 (.cells #[.string k, .string v, .int .i64 256, .slice none 0 0, .string t.toBr.key, .string t.toBr.val, .int .i64 t.toBr.at_, .slice sa t.toBr.kids.length cap] 35)
   have R3 := (uh R2).below BA
   have B3 := hbt B2 BA
   have O3 : Hid ((w2.alloc (.cells #[.string k, .string v, .int .i64 256, .slice none 0 0, .string t.toBr.key, .string t.toBr.val, .int .i64 t.toBr.at_, .slice sa t.toBr.kids.length cap] 35)).ownsRow w2.heap.size 35 4 (.slice (some ⟨w2.heap.size, 0, none⟩) 2 2) 2 #[.string k, .string v, .int .i64 256, .slice none 0 0, .string t.toBr.key, .string t.toBr.val, .int .i64 t.toBr.at_, .slice sa t.toBr.kids.length cap].toList) := Hd (own_lit4 (heap_alloc_new w2 _) (Nat.le_refl _) rfl)
   have r0 := R3.cell 0 rfl
   have r1 := R3.cell 1 rfl
   have r2 := R3.cell 2 rfl
   have r3 := R3.cell 3 rfl
   have f0 := R3.fro 0
   have f1 := R3.fro 1
   have f2 := R3.fro 2
   have f3 := R3.fro 3
   have hZ := set4_blk R3 (.string ⟨#[]⟩) (.string ⟨#[]⟩) (.int .i64 at_) (.slice (some ⟨w2.heap.size, 0, none⟩) 2 2)
   have z0 := hZ.cell 0 rfl
   have z1 := hZ.cell 1 rfl
   have z2 := hZ.cell 2 rfl
   have z3 := hZ.cell 3 rfl
   have HT4 := Hd (set4_touch (w2.alloc (.cells #[.string k, .string v, .int .i64 256, .slice none 0 0, .string t.toBr.key, .string t.toBr.val, .int .i64 t.toBr.at_, .slice sa t.toBr.kids.length cap] 35)) R (.string ⟨#[]⟩) (.string ⟨#[]⟩) (.int .i64 at_) (.slice (some ⟨w2.heap.size, 0, none⟩) 2 2))
   have HBF := Hd ((uh B3).trans ((uh HT4).below (uh B3).size (fun q hq e => by have := uh HRS; omega)))
   have hR2 := (uh R2).1
   have HRL := Hd (And.intro (uh B2).size hR2)
   unfold set4 at z0 z1 z2 z3
   clear hZ R3 BA hR2
   go_wp2_with fail
   refine (uh HBT w2).mono ?_
   rintro e w9 ⟨rfl, hw9⟩
   subst w9
   go_wp2_with fail
   refine bodyPost_ret (v := .agg #[.string ⟨#[]⟩, .string ⟨#[]⟩, .int .i64 at_, .slice (some ⟨w2.heap.size, 0, none⟩) 2 2]) (by simp [results, Tryz.results110, go_sem, z0, z1, z2, z3]) rfl ?_
   have O9 := own_kept (uh O3) (uh HT4) (fun q hq e => by
    have e1 : w2.heap.size = q := by simpa [Value.ownBlock] using hq
    have e2 : q = R := e
    have := (uh HRL).2
    omega)
   have KT := ((uh HKB).mono (T := fun x => B0 x ∨ w.heap.size ≤ x) (fun x hx => .inl hx)).blw (uh HBF)
   have KN := Brs.nil (w := set4 (w2.alloc (.cells #[.string k, .string v, .int .i64 256, .slice none 0 0, .string t.toBr.key, .string t.toBr.val, .int .i64 t.toBr.at_, .slice sa t.toBr.kids.length cap] 35)) R (.string ⟨#[]⟩) (.string ⟨#[]⟩) (.int .i64 at_) (.slice (some ⟨w2.heap.size, 0, none⟩) 2 2)) (S := fun x => B0 x ∨ w.heap.size ≤ x) none 0 (by unfold maxLen; omega)
   exact uh HGR2 (some ⟨w2.heap.size, 0, none⟩) 2 2 _ (brs_two (b0 := Br.mk k v 256 []) (b1 := t.toBr) (v0 := .slice none 0 0) (v1 := .slice sa t.toBr.kids.length cap) O9 (uh HZK) (uh HZT) KN KT (.inr (uh HRL).1)) (uh HBF)
  ·have HF : Hid (forkT at_ h k v t = .fork at_ h t (.leaf k v)) := Hd (by unfold forkT; rw [if_neg (by omega)])
   rw [hb] at HBT
   have HGR2 : Hid (∀ sa n cap w', Brs (fun x => B0 x ∨ w.heap.size ≤ x) w' (.slice sa n cap) [t.toBr, Br.mk k v 256 []] → Below w.heap.size w w' → DrR B0 (forkT at_ h k v t).toBr w (.returned (.agg #[.string ⟨#[]⟩, .string ⟨#[]⟩, .int .i64 at_, .slice sa n cap])) w') := Hd (fun sa n cap w' h1 hb => by rw [uh HF]; exact ⟨sa, n, cap, rfl, h1, hb⟩)
   have BA := bal w2 (.cells #[.string t.toBr.key, .string t.toBr.val, .int .i64 t.toBr.at_, .slice sa t.toBr.kids.length cap, .string k, .string v, .int .i64 256, .slice none 0 0] 35)
   have R3 := (uh R2).below BA
   have B3 := hbt B2 BA
   have O3 : Hid ((w2.alloc (.cells #[.string t.toBr.key, .string t.toBr.val, .int .i64 t.toBr.at_, .slice sa t.toBr.kids.length cap, .string k, .string v, .int .i64 256, .slice none 0 0] 35)).ownsRow w2.heap.size 35 4 (.slice (some ⟨w2.heap.size, 0, none⟩) 2 2) 2 #[.string t.toBr.key, .string t.toBr.val, .int .i64 t.toBr.at_, .slice sa t.toBr.kids.length cap, .string k, .string v, .int .i64 256, .slice none 0 0].toList) := Hd (own_lit4 (heap_alloc_new w2 _) (Nat.le_refl _) rfl)
   have r0 := R3.cell 0 rfl
   have r1 := R3.cell 1 rfl
   have r2 := R3.cell 2 rfl
   have r3 := R3.cell 3 rfl
   have f0 := R3.fro 0
   have f1 := R3.fro 1
   have f2 := R3.fro 2
   have f3 := R3.fro 3
   have hZ := set4_blk R3 (.string ⟨#[]⟩) (.string ⟨#[]⟩) (.int .i64 at_) (.slice (some ⟨w2.heap.size, 0, none⟩) 2 2)
   have z0 := hZ.cell 0 rfl
   have z1 := hZ.cell 1 rfl
   have z2 := hZ.cell 2 rfl
   have z3 := hZ.cell 3 rfl
   have HT4 := Hd (set4_touch (w2.alloc (.cells #[.string t.toBr.key, .string t.toBr.val, .int .i64 t.toBr.at_, .slice sa t.toBr.kids.length cap, .string k, .string v, .int .i64 256, .slice none 0 0] 35)) R (.string ⟨#[]⟩) (.string ⟨#[]⟩) (.int .i64 at_) (.slice (some ⟨w2.heap.size, 0, none⟩) 2 2))
   have HBF := Hd ((uh B3).trans ((uh HT4).below (uh B3).size (fun q hq e => by have := uh HRS; omega)))
   have hR2 := (uh R2).1
   have HRL := Hd (And.intro (uh B2).size hR2)
   unfold set4 at z0 z1 z2 z3
   clear hZ R3 BA hR2
   go_wp2_with fail
   refine (uh HBT w2).mono ?_
   rintro e w9 ⟨rfl, hw9⟩
   subst w9
   go_wp2_with fail
   refine bodyPost_ret (v := .agg #[.string ⟨#[]⟩, .string ⟨#[]⟩, .int .i64 at_, .slice (some ⟨w2.heap.size, 0, none⟩) 2 2]) (by simp [results, Tryz.results110, go_sem, z0, z1, z2, z3]) rfl ?_
   have O9 := own_kept (uh O3) (uh HT4) (fun q hq e => by
    have e1 : w2.heap.size = q := by simpa [Value.ownBlock] using hq
    have e2 : q = R := e
    have := (uh HRL).2
    omega)
   have KT := ((uh HKB).mono (T := fun x => B0 x ∨ w.heap.size ≤ x) (fun x hx => .inl hx)).blw (uh HBF)
   have KN := Brs.nil (w := set4 (w2.alloc (.cells #[.string t.toBr.key, .string t.toBr.val, .int .i64 t.toBr.at_, .slice sa t.toBr.kids.length cap, .string k, .string v, .int .i64 256, .slice none 0 0] 35)) R (.string ⟨#[]⟩) (.string ⟨#[]⟩) (.int .i64 at_) (.slice (some ⟨w2.heap.size, 0, none⟩) 2 2)) (S := fun x => B0 x ∨ w.heap.size ≤ x) none 0 (by unfold maxLen; omega)
   exact uh HGR2 (some ⟨w2.heap.size, 0, none⟩) 2 2 _ (brs_two (b0 := t.toBr) (b1 := Br.mk k v 256 []) (v0 := .slice sa t.toBr.kids.length cap) (v1 := .slice none 0 0) O9 (uh HZT) (uh HZK) KT KN (.inr (uh HRL).1)) (uh HBF)
end Go.Proofs.YtnhhnjmjodmacaaGreatDoor.Sha
