/- What the proof of the claim needs (joined by program): BrIn BrIs BrSp LeA. -/
import Derived.Test.YtlbcdngidfjogaaGreatDoorQba06
import Derived.Test.YtlbcdngidfjogaaGreatDoorQba05
import Derived.Test.YtlbcdngidfjogaaGreatDoorQba00
import Derived.Deep.DeepCutAuto
import Derived.Deep.RegionLaw
namespace Go.Proofs.YtlbcdngidfjogaaGreatDoor.Sha
set_option maxRecDepth 100000
set_option maxHeartbeats 8000000
open Go.ChangeShapes Go.WideShapes Go.ChangeAt Go.RowKit
set_option linter.unusedVariables false
set_option linter.unusedSimpArgs false
theorem own_lit4 {w : World} {B X : Nat} {cs : Array Value} (h : w.heap[X]? = some (.cells cs 39 (0, 0))) (hB : B ≤ X) (hn : cs.size = 8) : w.ownsRow B 39 4 (.slice (some ⟨X, 0, none⟩) 2 2) 2 cs.toList :=
 ⟨by simp [hn], .inr ⟨X, 2, cs, rfl, hB, h, Nat.le_refl _, by unfold maxLen; omega, by simp [hn], by rw [show 2 * 4 = cs.size from hn.symm, ← Array.length_toList, List.take_length]⟩⟩
theorem l07Insert_build (k v h : ByteArray) (hh : h.size = 32) (at_ : Nat) (ha : at_ < 256) (hkv : TrOK (.leaf k v)) (t : Tr) (hok : TrOK t) (hc : t.toBr.kids.length = 0 ∨ (at_ : Int) < t.toBr.at_) (B0 : Nat → Prop) (kv : Value) (w : World) (hB0 : ∀ x, B0 x → x < w.heap.size) (hB : Brs B0 w kv t.toBr.kids) :
  Calls Tryz.prog 67 #[.agg #[.string t.toBr.key, .string t.toBr.val, .int .i64 t.toBr.at_, kv], .string h, .int .i64 at_, .agg #[.string k, .string v, .int .i64 256, .slice none 0 0]] w fun e w' => DrR B0 (forkT at_ h k v t).toBr w e w' := by
 obtain ⟨sa, cap, rfl, hcap, hcm⟩ := hB.shape
 have HZT := Hd (toBr_small hok)
 have HZK := Hd (toBr_small hkv)
 have HLF := Hd (fun wx => l07Leaf_any t.toBr.key t.toBr.val t.toBr.at_ sa t.toBr.kids.length cap wx (by unfold maxLen at hcm ⊢; omega))
 have HBT := Hd (fun wx => l07Bit_any h at_ wx hh ha)
 have HKB := Hd hB
 have B1 := Hd (((bal w (.cells #[.string t.toBr.key, .string t.toBr.val, .int .i64 t.toBr.at_, .slice sa t.toBr.kids.length cap] 39)).alloc (by simp) (.cells #[.string k, .string v, .int .i64 256, .slice none 0 0] 39)).alloc (by simp; omega) (.cells #[.string ⟨#[]⟩, .string ⟨#[]⟩, .int .i64 0, .slice none 0 0] 39))
 have X1 := Hd (((Blk.new w #[.string t.toBr.key, .string t.toBr.val, .int .i64 t.toBr.at_, .slice sa t.toBr.kids.length cap] 39 w.heap.size rfl).alloc (.cells #[.string k, .string v, .int .i64 256, .slice none 0 0] 39)).alloc (.cells #[.string ⟨#[]⟩, .string ⟨#[]⟩, .int .i64 0, .slice none 0 0] 39))
 have L1 := Hd ((Blk.new (w.alloc (.cells #[.string t.toBr.key, .string t.toBr.val, .int .i64 t.toBr.at_, .slice sa t.toBr.kids.length cap] 39)) #[.string k, .string v, .int .i64 256, .slice none 0 0] 39 (w.heap.size + 1) (by simp)).alloc (.cells #[.string ⟨#[]⟩, .string ⟨#[]⟩, .int .i64 0, .slice none 0 0] 39))
 have R1 := Hd (Blk.new ((w.alloc (.cells #[.string t.toBr.key, .string t.toBr.val, .int .i64 t.toBr.at_, .slice sa t.toBr.kids.length cap] 39)).alloc (.cells #[.string k, .string v, .int .i64 256, .slice none 0 0] 39)) #[.string ⟨#[]⟩, .string ⟨#[]⟩, .int .i64 0, .slice none 0 0] 39 (w.heap.size + 1 + 1) (by simp))
 have HRS := Hd (show w.heap.size < w.heap.size + 1 + 1 by omega)
 have hne : ((at_ : Int) == 256) = false := by rw [beq_eq_false_iff_ne]; omega
 clear hB hok hkv
 go_enter Tryz.func67, Tryz.ntmps67
 go_upto_region 3 with fail
 generalize ((w.alloc (.cells #[.string t.toBr.key, .string t.toBr.val, .int .i64 t.toBr.at_, .slice sa t.toBr.kids.length cap] 39)).alloc (.cells #[.string k, .string v, .int .i64 256, .slice none 0 0] 39)).alloc (.cells #[.string ⟨#[]⟩, .string ⟨#[]⟩, .int .i64 0, .slice none 0 0] 39) = w1 at *
 generalize w.heap.size + 1 + 1 = R at *
 generalize w.heap.size + 1 = L at *
 have x0 := (uh X1).cell 0 rfl
 have x1 := (uh X1).cell 1 rfl
 have x2 := (uh X1).cell 2 rfl
 have x3 := (uh X1).cell 3 rfl
 go_cut [25] (fun s wx => s = .bool true ∧ Below w1.heap.size w1 wx)
 case first =>
  cases hlf : decide (t.toBr.kids.length = 0)
  ·have hlt : (at_ : Int) < t.toBr.at_ := by
    rcases hc with h0 | h0
    ·rw [decide_eq_true h0] at hlf; cases hlf
    ·exact h0
   rw [hlf] at HLF
   clear hc hlf
   go_wp2_with fail
   refine (uh HLF w1).mono ?_
   rintro e w2 ⟨rfl, hb2⟩
   have HB2 := Hd hb2
   have y2 := ((uh X1).below hb2).cell 2 rfl
   clear hb2
   go_wp2_with fail
   go_meet
   exact ⟨by first | rfl | simp [hlt], uh HB2⟩
  ·rw [hlf] at HLF
   clear hc hlf
   go_wp2_with fail
   refine (uh HLF w1).mono ?_
   rintro e w2 ⟨rfl, hb2⟩
   have HB2 := Hd hb2
   clear hb2
   go_wp2_with fail
   go_meet
   exact ⟨rfl, uh HB2⟩
 case rest =>
  obtain ⟨rfl, hbc⟩ := hcut
  obtain ⟨w2, hw2⟩ : ∃ w2, w2 = wc := ⟨_, rfl⟩
  subst hw2
  have B2 := hbt B1 hbc
  have R2 := Hd ((uh R1).below hbc)
  have X2 := (uh X1).below hbc
  have L2 := (uh L1).below hbc
  clear x0 x1 x2 x3 hbc B1 X1 R1 L1 hc
  have x0 := X2.cell 0 rfl
  have x1 := X2.cell 1 rfl
  have x2 := X2.cell 2 rfl
  have x3 := X2.cell 3 rfl
  have l0 := L2.cell 0 rfl
  have l1 := L2.cell 1 rfl
  have l2 := L2.cell 2 rfl
  have l3 := L2.cell 3 rfl
  clear X2 L2
  rcases bitN_01 h at_ with hb | hb
  ·have HF : Hid (forkT at_ h k v t = .fork at_ h (.leaf k v) t) := Hd (by unfold forkT; rw [if_pos hb])
   rw [hb] at HBT
   have HGR2 : Hid (∀ sa n cap w', Brs (fun x => B0 x ∨ w.heap.size ≤ x) w' (.slice sa n cap) [Br.mk k v 256 [], t.toBr] → Below w.heap.size w w' → DrR B0 (forkT at_ h k v t).toBr w (.returned (.agg #[.string ⟨#[]⟩, .string ⟨#[]⟩, .int .i64 at_, .slice sa n cap])) w') := Hd (fun sa n cap w' h1 hb => by rw [uh HF]; exact ⟨sa, n, cap, rfl, h1, hb⟩)
   have BA := bal w2 (.cells #[.string k, .string v, .int .i64 256, .slice none 0 0, .string t.toBr.key, .string t.toBr.val, .int .i64 t.toBr.at_, .slice sa t.toBr.kids.length cap] 39)
   have R3 := (uh R2).below BA
   have B3 := hbt B2 BA
   have O3 : Hid ((w2.alloc (.cells #[.string k, .string v, .int .i64 256, .slice none 0 0, .string t.toBr.key, .string t.toBr.val, .int .i64 t.toBr.at_, .slice sa t.toBr.kids.length cap] 39)).ownsRow w2.heap.size 39 4 (.slice (some ⟨w2.heap.size, 0, none⟩) 2 2) 2 #[.string k, .string v, .int .i64 256, .slice none 0 0, .string t.toBr.key, .string t.toBr.val, .int .i64 t.toBr.at_, .slice sa t.toBr.kids.length cap].toList) := Hd (own_lit4 (heap_alloc_new w2 _) (Nat.le_refl _) rfl)
   have r0 := R3.cell 0 rfl
   have r1 := R3.cell 1 rfl
   have r2 := R3.cell 2 rfl
   have r3 := R3.cell 3 rfl
   have f0 := R3.fro 0
   have f1 := R3.fro 1
   have f2 := R3.fro 2
   have f3 := R3.fro 3
   have hZ := set4_blk R3 (.string ⟨#[]⟩) (.string ⟨#[]⟩) (.int .i64 at_) (.slice (some ⟨w2.heap.size, 0, none⟩) 2 2)
   have z0 := hZ.cell 0 rfl
   have z1 := hZ.cell 1 rfl
   have z2 := hZ.cell 2 rfl
   have z3 := hZ.cell 3 rfl
   have HT4 := Hd (set4_touch (w2.alloc (.cells #[.string k, .string v, .int .i64 256, .slice none 0 0, .string t.toBr.key, .string t.toBr.val, .int .i64 t.toBr.at_, .slice sa t.toBr.kids.length cap] 39)) R (.string ⟨#[]⟩) (.string ⟨#[]⟩) (.int .i64 at_) (.slice (some ⟨w2.heap.size, 0, none⟩) 2 2))
   have HBF := Hd ((uh B3).trans ((uh HT4).below (uh B3).size (fun q hq e => by have := uh HRS; omega)))
   have hR2 := (uh R2).1
   have HRL := Hd (And.intro (uh B2).size hR2)
   unfold set4 at z0 z1 z2 z3
   clear hZ R3 BA hR2
   go_wp2_with fail
   refine (uh HBT w2).mono ?_
   rintro e w9 ⟨rfl, hw9⟩
   subst w9
   go_wp2_with fail
   refine bodyPost_ret (v := .agg #[.string ⟨#[]⟩, .string ⟨#[]⟩, .int .i64 at_, .slice (some ⟨w2.heap.size, 0, none⟩) 2 2]) (by simp [results, Tryz.results67, go_sem, z0, z1, z2, z3]) rfl ?_
   have O9 := own_kept (uh O3) (uh HT4) (fun q hq e => by
    have e1 : w2.heap.size = q := by simpa [Value.ownBlock] using hq
    have e2 : q = R := e
    have := (uh HRL).2
    omega)
   have KT := ((uh HKB).mono (T := fun x => B0 x ∨ w.heap.size ≤ x) (fun x hx => .inl hx)).blw (uh HBF)
   have KN := Brs.nil (w := set4 (w2.alloc (.cells #[.string k, .string v, .int .i64 256, .slice none 0 0, .string t.toBr.key, .string t.toBr.val, .int .i64 t.toBr.at_, .slice sa t.toBr.kids.length cap] 39)) R (.string ⟨#[]⟩) (.string ⟨#[]⟩) (.int .i64 at_) (.slice (some ⟨w2.heap.size, 0, none⟩) 2 2)) (S := fun x => B0 x ∨ w.heap.size ≤ x) none 0 (by unfold maxLen; omega)
   exact uh HGR2 (some ⟨w2.heap.size, 0, none⟩) 2 2 _ (brs_two (b0 := Br.mk k v 256 []) (b1 := t.toBr) (v0 := .slice none 0 0) (v1 := .slice sa t.toBr.kids.length cap) O9 (uh HZK) (uh HZT) KN KT (.inr (uh HRL).1)) (uh HBF)
  ·have HF : Hid (forkT at_ h k v t = .fork at_ h t (.leaf k v)) := Hd (by unfold forkT; rw [if_neg (by omega)])
   rw [hb] at HBT
   have HGR2 : Hid (∀ sa n cap w', Brs (fun x => B0 x ∨ w.heap.size ≤ x) w' (.slice sa n cap) [t.toBr, Br.mk k v 256 []] → Below w.heap.size w w' → DrR B0 (forkT at_ h k v t).toBr w (.returned (.agg #[.string ⟨#[]⟩, .string ⟨#[]⟩, .int .i64 at_, .slice sa n cap])) w') := Hd (fun sa n cap w' h1 hb => by rw [uh HF]; exact ⟨sa, n, cap, rfl, h1, hb⟩)
   have BA := bal w2 (.cells #[.string t.toBr.key, .string t.toBr.val, .int .i64 t.toBr.at_, .slice sa t.toBr.kids.length cap, .string k, .string v, .int .i64 256, .slice none 0 0] 39)
   have R3 := (uh R2).below BA
   have B3 := hbt B2 BA
   have O3 : Hid ((w2.alloc (.cells #[.string t.toBr.key, .string t.toBr.val, .int .i64 t.toBr.at_, .slice sa t.toBr.kids.length cap, .string k, .string v, .int .i64 256, .slice none 0 0] 39)).ownsRow w2.heap.size 39 4 (.slice (some ⟨w2.heap.size, 0, none⟩) 2 2) 2 #[.string t.toBr.key, .string t.toBr.val, .int .i64 t.toBr.at_, .slice sa t.toBr.kids.length cap, .string k, .string v, .int .i64 256, .slice none 0 0].toList) := Hd (own_lit4 (heap_alloc_new w2 _) (Nat.le_refl _) rfl)
   have r0 := R3.cell 0 rfl
   have r1 := R3.cell 1 rfl
   have r2 := R3.cell 2 rfl
   have r3 := R3.cell 3 rfl
   have f0 := R3.fro 0
   have f1 := R3.fro 1
   have f2 := R3.fro 2
   have f3 := R3.fro 3
   have hZ := set4_blk R3 (.string ⟨#[]⟩) (.string ⟨#[]⟩) (.int .i64 at_) (.slice (some ⟨w2.heap.size, 0, none⟩) 2 2)
   have z0 := hZ.cell 0 rfl
   have z1 := hZ.cell 1 rfl
   have z2 := hZ.cell 2 rfl
   have z3 := hZ.cell 3 rfl
   have HT4 := Hd (set4_touch (w2.alloc (.cells #[.string t.toBr.key, .string t.toBr.val, .int .i64 t.toBr.at_, .slice sa t.toBr.kids.length cap, .string k, .string v, .int .i64 256, .slice none 0 0] 39)) R (.string ⟨#[]⟩) (.string ⟨#[]⟩) (.int .i64 at_) (.slice (some ⟨w2.heap.size, 0, none⟩) 2 2))
   have HBF := Hd ((uh B3).trans ((uh HT4).below (uh B3).size (fun q hq e => by have := uh HRS; omega)))
   have hR2 := (uh R2).1
   have HRL := Hd (And.intro (uh B2).size hR2)
   unfold set4 at z0 z1 z2 z3
   clear hZ R3 BA hR2
   go_wp2_with fail
   refine (uh HBT w2).mono ?_
   rintro e w9 ⟨rfl, hw9⟩
   subst w9
   go_wp2_with fail
   refine bodyPost_ret (v := .agg #[.string ⟨#[]⟩, .string ⟨#[]⟩, .int .i64 at_, .slice (some ⟨w2.heap.size, 0, none⟩) 2 2]) (by simp [results, Tryz.results67, go_sem, z0, z1, z2, z3]) rfl ?_
   have O9 := own_kept (uh O3) (uh HT4) (fun q hq e => by
    have e1 : w2.heap.size = q := by simpa [Value.ownBlock] using hq
    have e2 : q = R := e
    have := (uh HRL).2
    omega)
   have KT := ((uh HKB).mono (T := fun x => B0 x ∨ w.heap.size ≤ x) (fun x hx => .inl hx)).blw (uh HBF)
   have KN := Brs.nil (w := set4 (w2.alloc (.cells #[.string t.toBr.key, .string t.toBr.val, .int .i64 t.toBr.at_, .slice sa t.toBr.kids.length cap, .string k, .string v, .int .i64 256, .slice none 0 0] 39)) R (.string ⟨#[]⟩) (.string ⟨#[]⟩) (.int .i64 at_) (.slice (some ⟨w2.heap.size, 0, none⟩) 2 2)) (S := fun x => B0 x ∨ w.heap.size ≤ x) none 0 (by unfold maxLen; omega)
   exact uh HGR2 (some ⟨w2.heap.size, 0, none⟩) 2 2 _ (brs_two (b0 := t.toBr) (b1 := Br.mk k v 256 []) (v0 := .slice sa t.toBr.kids.length cap) (v1 := .slice none 0 0) O9 (uh HZT) (uh HZK) KT KN (.inr (uh HRL).1)) (uh HBF)
theorem l07Insert_leaf (k v h k' v' : ByteArray) (B0 : Nat → Prop) (kv : Value) (w : World) (hB : Brs B0 w kv []) :
  Calls Tryz.prog 67 #[.agg #[.string k', .string v', .int .i64 256, kv], .string h, .int .i64 256, .agg #[.string k, .string v, .int .i64 256, .slice none 0 0]] w fun e w' => DrR B0 (Tr.leaf k v).toBr w e w' := by
 obtain ⟨sa, cap, rfl, hcap, hcm⟩ := hB.shape
 have HLF := Hd (fun wx => l07Leaf_any k' v' 256 sa 0 cap wx (by unfold maxLen; omega))
 rw [show decide ((0 : Nat) = 0) = true from rfl] at HLF
 dsimp only [List.length_nil] at hB ⊢
 have HGR : Hid (∀ w', Below w.heap.size w w' → DrR B0 (Tr.leaf k v).toBr w (.returned (.agg #[.string k, .string v, .int .i64 256, .slice none 0 0])) w') := Hd (fun w' hb => ⟨none, 0, 0, rfl, .nil _ _ (by unfold maxLen; omega), hb⟩)
 have B1 := Hd (((bal w (.cells #[.string k', .string v', .int .i64 256, .slice sa 0 cap] 39)).alloc (by simp) (.cells #[.string k, .string v, .int .i64 256, .slice none 0 0] 39)).alloc (by simp; omega) (.cells #[.string ⟨#[]⟩, .string ⟨#[]⟩, .int .i64 0, .slice none 0 0] 39))
 have L1 := Hd ((Blk.new (w.alloc (.cells #[.string k', .string v', .int .i64 256, .slice sa 0 cap] 39)) #[.string k, .string v, .int .i64 256, .slice none 0 0] 39 (w.heap.size + 1) (by simp)).alloc (.cells #[.string ⟨#[]⟩, .string ⟨#[]⟩, .int .i64 0, .slice none 0 0] 39))
 have R1 := Hd (Blk.new ((w.alloc (.cells #[.string k', .string v', .int .i64 256, .slice sa 0 cap] 39)).alloc (.cells #[.string k, .string v, .int .i64 256, .slice none 0 0] 39)) #[.string ⟨#[]⟩, .string ⟨#[]⟩, .int .i64 0, .slice none 0 0] 39 (w.heap.size + 1 + 1) (by simp))
 have HRS := Hd (show w.heap.size < w.heap.size + 1 + 1 by omega)
 clear hB
 go_enter Tryz.func67, Tryz.ntmps67
 go_wp2_with fail
 generalize ((w.alloc (.cells #[.string k', .string v', .int .i64 256, .slice sa 0 cap] 39)).alloc (.cells #[.string k, .string v, .int .i64 256, .slice none 0 0] 39)).alloc (.cells #[.string ⟨#[]⟩, .string ⟨#[]⟩, .int .i64 0, .slice none 0 0] 39) = w1 at *
 generalize w.heap.size + 1 + 1 = R at *
 generalize w.heap.size + 1 = L at *
 refine (uh HLF w1).mono ?_
 rintro e w2 ⟨rfl, hb2⟩
 have B2 := hbt B1 hb2
 have R2 := Hd ((uh R1).below hb2)
 have L2 := (uh L1).below hb2
 have l0 := L2.cell 0 rfl
 have l1 := L2.cell 1 rfl
 have l2 := L2.cell 2 rfl
 have l3 := L2.cell 3 rfl
 clear hb2 B1 R1 L1 L2
 have r0 := (uh R2).cell 0 rfl
 have r1 := (uh R2).cell 1 rfl
 have r2 := (uh R2).cell 2 rfl
 have r3 := (uh R2).cell 3 rfl
 have f0 := (uh R2).fro 0
 have f1 := (uh R2).fro 1
 have f2 := (uh R2).fro 2
 have f3 := (uh R2).fro 3
 have hZ := set4_blk (uh R2) (.string k) (.string v) (.int .i64 256) (.slice none 0 0)
 have z0 := hZ.cell 0 rfl
 have z1 := hZ.cell 1 rfl
 have z2 := hZ.cell 2 rfl
 have z3 := hZ.cell 3 rfl
 have HT4 := Hd (set4_touch w2 R (.string k) (.string v) (.int .i64 256) (.slice none 0 0))
 have HBF := Hd ((uh B2).trans ((uh HT4).below (uh B2).size (fun q hq e => by have := (uh HRS); omega)))
 unfold set4 at z0 z1 z2 z3
 clear hZ
 go_wp2_with fail
 refine bodyPost_ret (v := .agg #[.string k, .string v, .int .i64 256, .slice none 0 0]) (by simp [results, Tryz.results67, go_sem, z0, z1, z2, z3]) rfl ?_
 exact uh HGR _ (uh HBF)
def replT (kb a : Nat) (hv : ByteArray) (l r t' : Tr) : Tr := if kb = 0 then .fork a hv t' r else .fork a hv l t'
theorem l07Insert_any (k v h : ByteArray) (hh : h.size = 32) (at_ : Nat) (hat0 : at_ ≤ 256) (hkv : TrOK (.leaf k v)) : ∀ (t : Tr), TrOK t → ∀ (m : Nat), Rise m t → Sep t → at_ = fd (kh (leadL h t).1) h → ∀ (B0 : Nat → Prop) (kv : Value) (w : World), (∀ x, B0 x → x < w.heap.size) → Brs B0 w kv t.toBr.kids →
  Calls Tryz.prog 67 #[.agg #[.string t.toBr.key, .string t.toBr.val, .int .i64 t.toBr.at_, kv], .string h, .int .i64 at_, .agg #[.string k, .string v, .int .i64 256, .slice none 0 0]] w fun e w' => DrR B0 (putT h at_ k v t).toBr w e w' := by
 intro t
 induction t with
 | leaf k' v' =>
  intro hok m hr hs hfd B0 kv w hB0 hB
  by_cases h256 : at_ = 256
  ·subst h256
   have := l07Insert_leaf k v h k' v' B0 kv w hB
   unfold putT
   rw [if_pos rfl]
   exact this
  ·have := l07Insert_build k v h hh at_ (by omega) hkv (.leaf k' v') hok (.inl rfl) B0 kv w hB0 hB
   unfold putT
   rw [if_neg h256]
   exact this
 | fork a hv l r ihl ihr =>
  intro hok m hr hs hfd B0 kv w hB0 hB
  have hne : at_ ≠ a := fun e => by
   have h1 := ((fd_iff (kh (leadL h (.fork a hv l r)).1) h at_ (by have := hr.2.1; omega)).1 hfd.symm).2
   rw [e] at h1
   exact h1 (lead_bit h hr hs)
  by_cases hlt : a < at_
  ·obtain ⟨ha, ho9, okl, okr⟩ := hok
   obtain ⟨r0, r1, r2, r3⟩ := hr
   obtain ⟨q1, q2, q3, sl, sr⟩ := hs
   obtain ⟨sa, cap, rfl, hcap, hcm⟩ := hB.shape
   have hkm := hcm
   obtain ⟨kb, tn, hkb, hb2, HDT, okn, hgn, IH⟩ : ∃ (kb : Nat) (tn : Tr), bitN h a = kb ∧ kb < 2 ∧ Hid (putT h at_ k v (.fork a hv l r) = replT kb a hv l r (putT h at_ k v tn)) ∧ TrOK tn ∧ ([l.toBr, r.toBr] : List Br).getD kb default = tn.toBr ∧
     Hid (∀ (B0 : Nat → Prop) (kv : Value) (w : World), (∀ x, B0 x → x < w.heap.size) → Brs B0 w kv tn.toBr.kids → Calls Tryz.prog 67 #[.agg #[.string tn.toBr.key, .string tn.toBr.val, .int .i64 tn.toBr.at_, kv], .string h, .int .i64 at_, .agg #[.string k, .string v, .int .i64 256, .slice none 0 0]] w fun e w' => DrR B0 (putT h at_ k v tn).toBr w e w') := by
    rcases bitN_01 h a with hb | hb
    ·exact ⟨0, l, hb, by omega, Hd (by (conv => lhs; unfold putT; rw [if_pos hlt, if_pos hb]); rfl), okl, rfl, Hd (ihl okl _ r2 sl (by rw [hfd]; conv => lhs; unfold leadL; rw [if_pos hb]))⟩
    ·exact ⟨1, r, hb, by omega, Hd (by (conv => lhs; unfold putT; rw [if_pos hlt, if_neg (by omega)]); rfl), okr, rfl, Hd (ihr okr _ r3 sr (by rw [hfd]; conv => lhs; unfold leadL; rw [if_neg (by omega)]))⟩
   clear ihl ihr hfd hne q1 q2 q3 sl sr r0 r2 r3 ho9
   rw [uh HDT]
   have HOT : Hid (TrOK (putT h at_ k v tn)) := Hd (putT_ok h at_ k v hat0 hh hkv.1 hkv.2 tn okn)
   generalize putT h at_ k v tn = t' at *
   have HGR : Hid (∀ sa n cap w', Brs (fun x => B0 x ∨ w.heap.size ≤ x) w' (.slice sa n cap) (replT kb a hv l r t').toBr.kids → Below w.heap.size w w' → DrR B0 (replT kb a hv l r t').toBr w (.returned (.agg #[.string (replT kb a hv l r t').toBr.key, .string (replT kb a hv l r t').toBr.val, .int .i64 (replT kb a hv l r t').toBr.at_, .slice sa n cap])) w') := Hd (fun sa n cap w' h1 hb => ⟨sa, n, cap, rfl, h1, hb⟩)
   dsimp only [Tr.toBr, Br.key, Br.val, Br.at_, Br.kids] at hB hcap ⊢
   rw [show ([l.toBr, r.toBr] : List Br).length = 2 from rfl] at hB hcap ⊢
   obtain ⟨bb, off, kvf, rfl, _, hat⟩ := hB.at (by simp)
   have hbb := hat.lt
   obtain ⟨d0, d1, d2, d3⟩ := hat.cells kb (by simpa using hb2)
   have KN := Hd (hat.kids kb (by simpa using hb2))
   rw [hgn] at d0 d1 d2 KN
   obtain ⟨kan, kcn, hkvn, _, hknm⟩ := (uh KN).shape
   rw [hkvn] at KN d3
   have HLF := Hd (fun wx => l07Leaf_any ⟨#[]⟩ ⟨#[]⟩ a (some ⟨bb, off, none⟩) 2 cap wx (by unfold maxLen at hkm ⊢; omega))
   rw [show decide ((2 : Nat) = 0) = false from rfl] at HLF
   have HBT := Hd (fun wx => l07Bit_any h a wx hh r1)
   rw [hkb] at HBT
   have B1 := Hd (((bal w (.cells #[.string ⟨#[]⟩, .string ⟨#[]⟩, .int .i64 a, .slice (some ⟨bb, off, none⟩) 2 cap] 39)).alloc (by simp) (.cells #[.string k, .string v, .int .i64 256, .slice none 0 0] 39)).alloc (by simp; omega) (.cells #[.string ⟨#[]⟩, .string ⟨#[]⟩, .int .i64 0, .slice none 0 0] 39))
   have X1 := Hd (((Blk.new w #[.string ⟨#[]⟩, .string ⟨#[]⟩, .int .i64 a, .slice (some ⟨bb, off, none⟩) 2 cap] 39 w.heap.size rfl).alloc (.cells #[.string k, .string v, .int .i64 256, .slice none 0 0] 39)).alloc (.cells #[.string ⟨#[]⟩, .string ⟨#[]⟩, .int .i64 0, .slice none 0 0] 39))
   have L1 := Hd ((Blk.new (w.alloc (.cells #[.string ⟨#[]⟩, .string ⟨#[]⟩, .int .i64 a, .slice (some ⟨bb, off, none⟩) 2 cap] 39)) #[.string k, .string v, .int .i64 256, .slice none 0 0] 39 (w.heap.size + 1) (by simp)).alloc (.cells #[.string ⟨#[]⟩, .string ⟨#[]⟩, .int .i64 0, .slice none 0 0] 39))
   have R1 := Hd (Blk.new ((w.alloc (.cells #[.string ⟨#[]⟩, .string ⟨#[]⟩, .int .i64 a, .slice (some ⟨bb, off, none⟩) 2 cap] 39)).alloc (.cells #[.string k, .string v, .int .i64 256, .slice none 0 0] 39)) #[.string ⟨#[]⟩, .string ⟨#[]⟩, .int .i64 0, .slice none 0 0] 39 (w.heap.size + 1 + 1) (by simp))
   have HRS := Hd (show w.heap.size < w.heap.size + 1 + 1 ∧ w.heap.size < w.heap.size + 1 by omega)
   have HAT := Hd hat
   have hgt : ¬ (at_ : Int) < (a : Int) := by omega
   clear hB hat hkvn hkb hgn HDT
   go_enter Tryz.func67, Tryz.ntmps67
   go_upto_region 1 with fail
   generalize ((w.alloc (.cells #[.string ⟨#[]⟩, .string ⟨#[]⟩, .int .i64 a, .slice (some ⟨bb, off, none⟩) 2 cap] 39)).alloc (.cells #[.string k, .string v, .int .i64 256, .slice none 0 0] 39)).alloc (.cells #[.string ⟨#[]⟩, .string ⟨#[]⟩, .int .i64 0, .slice none 0 0] 39) = w1 at *
   generalize w.heap.size + 1 + 1 = R at *
   generalize w.heap.size + 1 = L at *
   have x0 := (uh X1).cell 0 rfl
   have x1 := (uh X1).cell 1 rfl
   have x2 := (uh X1).cell 2 rfl
   have x3 := (uh X1).cell 3 rfl
   go_cut [16] (fun s wx => s = .bool false ∧ Below w1.heap.size w1 wx)
   case first =>
    by_cases h256 : at_ = 256
    ·subst h256
     go_wp2_with fail
     refine (uh HLF w1).mono ?_
     rintro e w2 ⟨rfl, hb2'⟩
     have HB2 := Hd hb2'
     clear hb2'
     go_wp2_with fail
     go_meet
     exact ⟨rfl, uh HB2⟩
    ·have h2 : ((at_ : Int) == 256) = false := by rw [beq_eq_false_iff_ne]; omega
     go_wp2_with fail
     go_meet
     exact ⟨rfl, Below.refl _ _⟩
   case rest =>
    obtain ⟨rfl, hbc⟩ := hcut
    obtain ⟨w2, hw2⟩ : ∃ w2, w2 = wc := ⟨_, rfl⟩
    subst hw2
    have B2 := hbt B1 hbc
    have X2 := Hd ((uh X1).below hbc)
    have L2 := Hd ((uh L1).below hbc)
    have R2 := Hd ((uh R1).below hbc)
    clear x0 x1 x2 x3 hbc B1 X1 L1 R1
    have x0 := (uh X2).cell 0 rfl
    have x1 := (uh X2).cell 1 rfl
    have x2 := (uh X2).cell 2 rfl
    have x3 := (uh X2).cell 3 rfl
    go_wp2_with fail
    refine (uh HLF w2).mono ?_
    rintro e w3 ⟨rfl, hb3⟩
    have B3 := hbt B2 hb3
    have X3 := Hd ((uh X2).below hb3)
    have L3 := Hd ((uh L2).below hb3)
    have R3 := Hd ((uh R2).below hb3)
    clear hb3 B2 X2 L2 R2 HLF x0 x1 x2 x3
    have x2 := (uh X3).cell 2 rfl
    go_wp2_with fail
    refine (uh HBT w3).mono ?_
    rintro e w9 ⟨rfl, hw9⟩
    subst w9
    have m0 : (0 : Int) ≤ (kb : Int) := by omega
    have m1 : (kb : Int) < 2 := by omega
    obtain ⟨ka0, kc0, hk0, _, _⟩ := ((uh HAT).kids 0 (by simp)).shape
    obtain ⟨ka1, kc1, hk1, _, _⟩ := ((uh HAT).kids 1 (by simp)).shape
    have BB := bal w3 (.cells #[] 39)
    have B5 := hbt B3 BB
    have X5 := Hd ((uh X3).below BB)
    have L5 := Hd ((uh L3).below BB)
    have R5 := Hd ((uh R3).below BB)
    have O5 : Hid ((w3.alloc (.cells #[] 39)).ownsRow w3.heap.size 39 4 (.slice (some ⟨w3.heap.size, 0, none⟩) 0 0) 0 []) := Hd (World.ownsRow_made w3 #[] 0 (Nat.le_refl _) (by unfold maxLen; omega) rfl)
    have HRW := Hd (row2_rw (cap := cap) (uh HAT) (uh B5))
    have H1C : Hid (∀ u ∈ row2 l.toBr r.toBr (kvf 0) (kvf 1), u.oneCell' = true) := Hd (by rw [hk0, hk1]; exact row2_one)
    have x35 := (uh X5).cell 3 rfl
    have hE5 : (w3.alloc (.cells #[] 39)).heap.size = w3.heap.size + 1 := by simp
    obtain ⟨i0, hi, hz0, hz1, hz2⟩ := info_parts infoBr
    have hw4 := (uh B3).size
    have hX4' : w.heap.size < w3.heap.size := (uh X3).1
    have hL4' : L < w3.heap.size := (uh L3).1
    have hR4' : R < w3.heap.size := (uh R3).1
    clear BB X3 R3 B3 L3 x2 hk0 hk1
    go_upto_region 9 with (at_builtin; refine wpList_append_row _ rfl _ _ _ rfl w3.heap.size 39 i0 _ 4 64 Tryz.underlying37 hi hz0 hz1 hz2 rfl (by omega) _ 0 [] rfl (uh O5) _ 2 (row2 l.toBr r.toBr (kvf 0) (kvf 1)) rfl (uh HRW) rfl (uh H1C) (by unfold maxLen; omega) (by omega) (by omega) ?_; intro a6 c6 w6 hown6 hgrow6 hat6; have R6' := Hd (And.intro hown6 (And.intro hgrow6 hat6)); clear hown6 hgrow6 hat6)
    obtain ⟨hown6, hgrow6, hat6⟩ := uh R6'
    obtain ⟨g6, c6', he6, hg6, hg6'⟩ := World.ownsRow.form hown6 (by omega)
    cases he6
    rw [List.nil_append] at hown6
    have B6 := Hd (grown6 (uh B5) hgrow6 hw4)
    have T6 : Touch (fun q => q = w3.heap.size) _ w6 := grownT hgrow6
    have X6 := Hd ((uh X5).kept T6 (fun e => by have e' : w.heap.size = w3.heap.size := e; omega))
    have L6 := Hd ((uh L5).kept T6 (fun e => by have e' : L = w3.heap.size := e; omega))
    have R6 := Hd ((uh R5).kept T6 (fun e => by have e' : R = w3.heap.size := e; omega))
    have O6 := Hd hown6
    have x36 := (uh X6).cell 3 rfl
    have l60 := (uh L6).cell 0 rfl
    have l61 := (uh L6).cell 1 rfl
    have l62 := (uh L6).cell 2 rfl
    have l63 := (uh L6).cell 3 rfl
    have t0 := ((uh B6).cell (p := ⟨bb, off + kb * 4, none⟩) hbb).trans d0
    have t1 := ((uh B6).cell (p := ⟨bb, off + kb * 4 + 1, none⟩) hbb).trans d1
    have t2 := ((uh B6).cell (p := ⟨bb, off + kb * 4 + 2, none⟩) hbb).trans d2
    have t3 := ((uh B6).cell (p := ⟨bb, off + kb * 4 + 3, none⟩) hbb).trans d3
    clear hown6 hgrow6 hat6 T6 R6' X5 R5 L5 B5 O5 HRW H1C x35
    have HIH := Hd (fun wx (hbx : Below w6.heap.size w6 wx) => uh IH B0 _ wx (fun x hx => Nat.lt_of_lt_of_le (hB0 x hx) ((uh B6).trans (hbx.mono (uh B6).size)).size) ((uh KN).blw ((uh B6).trans (hbx.mono (uh B6).size))))
    have HE4 : Hid (∃ e0 e1 e2 e3, (row2 l.toBr r.toBr (kvf 0) (kvf 1))[kb * 4]? = some e0 ∧ (row2 l.toBr r.toBr (kvf 0) (kvf 1))[kb * 4 + 1]? = some e1 ∧ (row2 l.toBr r.toBr (kvf 0) (kvf 1))[kb * 4 + 2]? = some e2 ∧ (row2 l.toBr r.toBr (kvf 0) (kvf 1))[kb * 4 + 3]? = some e3) := Hd ⟨_, _, _, _, List.getElem?_eq_getElem (by simp [row2]; omega), List.getElem?_eq_getElem (by simp [row2]; omega), List.getElem?_eq_getElem (by simp [row2]; omega), List.getElem?_eq_getElem (by simp [row2]; omega)⟩
    obtain ⟨e0, e1, e2, e3, he0, he1, he2, he3⟩ := uh HE4
    have HST : Hid (∀ w7, Below w6.heap.size w6 w7 → (w7.cell? ⟨g6, kb * 4, none⟩ = some e0 ∧ w7.cell? ⟨g6, kb * 4 + 1, none⟩ = some e1 ∧ w7.cell? ⟨g6, kb * 4 + 2, none⟩ = some e2 ∧ w7.cell? ⟨g6, kb * 4 + 3, none⟩ = some e3) ∧ (w7.frozen? ⟨g6, kb * 4, none⟩ = false ∧ w7.frozen? ⟨g6, kb * 4 + 1, none⟩ = false ∧ w7.frozen? ⟨g6, kb * 4 + 2, none⟩ = false ∧ w7.frozen? ⟨g6, kb * 4 + 3, none⟩ = false)) := Hd (fun w7 hb7 => by
     have O7 := own_kept (T := fun _ => False) (uh O6) (Touch.ofBelow hb7) (fun _ _ h => h)
     exact ⟨⟨(O7.cellAt (kb * 4) (by omega)).trans he0, (O7.cellAt (kb * 4 + 1) (by omega)).trans he1, (O7.cellAt (kb * 4 + 2) (by omega)).trans he2, (O7.cellAt (kb * 4 + 3) (by omega)).trans he3⟩, O7.frozenAt (kb * 4), O7.frozenAt (kb * 4 + 1), O7.frozenAt (kb * 4 + 2), O7.frozenAt (kb * 4 + 3)⟩)
    clear he0 he1 he2 he3
    go_cut [] (fun wx => ∃ (w7 : World) (s7 : Option Addr) (n7 c7 : Nat), Brs (fun x => B0 x ∨ w6.heap.size ≤ x) w7 (.slice s7 n7 c7) t'.toBr.kids ∧ Below w6.heap.size w6 w7 ∧ wx = (((w7.setCell ⟨g6, kb * 4, none⟩ (.string t'.toBr.key)).setCell ⟨g6, kb * 4 + 1, none⟩ (.string t'.toBr.val)).setCell ⟨g6, kb * 4 + 2, none⟩ (.int .i64 t'.toBr.at_)).setCell ⟨g6, kb * 4 + 3, none⟩ (.slice s7 n7 c7))
    case first =>
     go_wp2_with fail
     go_region_law ((go_simp; go_at_call 67; refine (uh HIH _ (below_drewN (Below.refl _ _) 1)).mono ?_; rintro e w7 ⟨s7, n7, c7, rfl, hBr7, hb7⟩; (have HB7 := Hd (And.intro hBr7 ((below_drewN (Below.refl w6.heap.size w6) 1).trans hb7))); clear hBr7 hb7; (obtain ⟨⟨g0, g1, g2, g3⟩, i0', i1', i2', i3'⟩ := uh HST w7 (uh HB7).2); go_simp))
     all_goals
      go_wp2_with fail
      go_meet
      exact ⟨w7, s7, n7, c7, (uh HB7).1, (uh HB7).2, rfl⟩
    case rest =>
     obtain ⟨w7, s7, n7, c7, hBr7, hb7, hwc⟩ := hcut
     have O7 := own_kept (T := fun _ => False) (uh O6) (Touch.ofBelow hb7) (fun _ _ h => h)
     have B7 := (uh B6).trans (hb7.mono (uh B6).size)
     have hz67 := hb7.size
     have X7 := (uh X6).below hb7
     have R7 := (uh R6).below hb7
     have O8 := (((O7.stored (kb * 4) (.string t'.toBr.key)).1.stored (kb * 4 + 1) (.string t'.toBr.val)).1.stored (kb * 4 + 2) (.int .i64 t'.toBr.at_)).1.stored (kb * 4 + 3) (.slice s7 n7 c7) |>.1
     have T8 : Touch (fun q => q = g6) w7 ((((w7.setCell ⟨g6, kb * 4, none⟩ (.string t'.toBr.key)).setCell ⟨g6, kb * 4 + 1, none⟩ (.string t'.toBr.val)).setCell ⟨g6, kb * 4 + 2, none⟩ (.int .i64 t'.toBr.at_)).setCell ⟨g6, kb * 4 + 3, none⟩ (.slice s7 n7 c7)) :=
      ((((Touch.refl (fun q => q = g6) w7).setCell ⟨g6, kb * 4, none⟩ _ (fun _ => rfl)).setCell ⟨g6, kb * 4 + 1, none⟩ _ (fun _ => rfl)).setCell ⟨g6, kb * 4 + 2, none⟩ _ (fun _ => rfl)).setCell ⟨g6, kb * 4 + 3, none⟩ _ (fun _ => rfl)
     rw [← hwc] at O8 T8
     have X8 := Hd (X7.kept T8 (fun e => by have e' : w.heap.size = g6 := e; omega))
     have R8 := Hd (R7.kept T8 (fun e => by have e' : R = g6 := e; omega))
     have B8 := Hd (B7.trans (T8.below B7.size (fun q hq e => by have e' : q = g6 := e; omega)))
     have HBr8 := Hd (hBr7.touch T8 (fun q hq e => by have e' : q = g6 := e; rcases hq with hq | hq; (have h8 := hB0 q hq; omega); omega))
     have HO8 := Hd O8
     clear O7 O8 T8 B7 X7 R7 hBr7 hb7 hwc X6 R6 L6 B6 O6 x36 l60 l61 l62 l63 t0 t1 t2 t3 HIH HST HE4
     obtain ⟨w8, hw8⟩ : ∃ w8, w8 = wc := ⟨_, rfl⟩
     subst hw8
     have x28 := (uh X8).cell 2 rfl
     have r0' := (uh R8).cell 0 rfl
     have r1' := (uh R8).cell 1 rfl
     have r2' := (uh R8).cell 2 rfl
     have r3' := (uh R8).cell 3 rfl
     have f0 := (uh R8).fro 0
     have f1 := (uh R8).fro 1
     have f2 := (uh R8).fro 2
     have f3 := (uh R8).fro 3
     have hZ := set4_blk (uh R8) (.string ⟨#[]⟩) (.string ⟨#[]⟩) (.int .i64 a) (.slice (some ⟨g6, 0, none⟩) 2 c6)
     have z0 := hZ.cell 0 rfl
     have z1 := hZ.cell 1 rfl
     have z2 := hZ.cell 2 rfl
     have z3 := hZ.cell 3 rfl
     have HT4 := Hd (set4_touch w8 R (.string ⟨#[]⟩) (.string ⟨#[]⟩) (.int .i64 a) (.slice (some ⟨g6, 0, none⟩) 2 c6))
     have HBF := Hd ((uh B8).trans ((uh HT4).below (uh B8).size (fun q hq e => by have := (uh HRS); omega)))
     unfold set4 at z0 z1 z2 z3
     clear hZ
     go_wp2_with fail
     refine bodyPost_ret (v := .agg #[.string ⟨#[]⟩, .string ⟨#[]⟩, .int .i64 a, .slice (some ⟨g6, 0, none⟩) 2 c6]) (by simp [results, Tryz.results67, go_sem, z0, z1, z2, z3]) rfl ?_
     have hrs := uh HRS
     have O9 := own_kept (uh HO8) (uh HT4) (fun q hq e => by
      have e1 : g6 = q := by simpa [Value.ownBlock] using hq
      have e2 : q = R := e
      omega)
     have K9 := ((uh HBr8).touch (uh HT4) (fun q hq e => by have e2 : q = R := e; rcases hq with hq | hq; (have h8 := hB0 q hq; omega); omega)).mono (T := fun x => B0 x ∨ w.heap.size ≤ x) (fun x hx => hx.imp id (fun h => by omega))
     have zt := toBr_small (uh HOT)
     have zl := toBr_small okl
     have zr := toBr_small okr
     have L0' := (((uh HAT).kids 0 (by simp)).mono (T := fun x => B0 x ∨ w.heap.size ≤ x) (fun x hx => .inl hx)).blw (uh HBF)
     have L1' := (((uh HAT).kids 1 (by simp)).mono (T := fun x => B0 x ∨ w.heap.size ≤ x) (fun x hx => .inl hx)).blw (uh HBF)
     rcases (show kb = 0 ∨ kb = 1 by omega) with hk | hk
     ·subst hk
      exact uh HGR (some ⟨g6, 0, none⟩) 2 c6 _ (brs_two (b0 := t'.toBr) (b1 := r.toBr) (v0 := .slice s7 n7 c7) (v1 := kvf 1) O9 zt zr K9 L1' (.inr (by omega))) (uh HBF)
     ·subst hk
      exact uh HGR (some ⟨g6, 0, none⟩) 2 c6 _ (brs_two (b0 := l.toBr) (b1 := t'.toBr) (v0 := kvf 0) (v1 := .slice s7 n7 c7) O9 zl zt L0' K9 (.inr (by omega))) (uh HBF)
  ·have := l07Insert_build k v h hh at_ (by have := hr.2.1; omega) hkv (.fork a hv l r) hok (.inr (by show (at_ : Int) < (a : Int); omega)) B0 kv w hB0 hB
   unfold putT
   rw [if_neg hlt]
   exact this
def mpT (o : Option Tr) (key val : ByteArray) : Tr := match o with
 | none => .leaf key val
 | some t => putT (kh key) (putAt t key) key val t
theorem putT_lvN (h : ByteArray) (a : Nat) (k v : ByteArray) (ha : a ≤ 256) : ∀ t, TrOK t → (putT h a k v t).lvN = if a < 256 then t.lvN + 1 else t.lvN
 | .leaf k' v', ho => by
  unfold putT
  by_cases e : a = 256
  ·rw [if_pos e, if_neg (by omega)]; rfl
  ·rw [if_neg e, if_pos (by omega)]; unfold forkT; split <;> rfl
 | .fork b hb l r, ho => by
  unfold putT
  by_cases e : b < a
  ·rw [if_pos e]
   split
   ·show (putT h a k v l).lvN + r.lvN = _
    rw [putT_lvN h a k v ha l ho.2.2.1]
    show _ = if a < 256 then l.lvN + r.lvN + 1 else l.lvN + r.lvN
    split <;> omega
   ·show l.lvN + (putT h a k v r).lvN = _
    rw [putT_lvN h a k v ha r ho.2.2.2]
    show _ = if a < 256 then l.lvN + r.lvN + 1 else l.lvN + r.lvN
    split <;> omega
  ·rw [if_neg e, if_pos (by have := ho.1; omega)]
   unfold forkT
   split
   ·show 1 + (l.lvN + r.lvN) = l.lvN + r.lvN + 1; omega
   ·show (l.lvN + r.lvN) + 1 = l.lvN + r.lvN + 1; rfl
theorem mpT_ok {o : Option Tr} {key val : ByteArray} (ho : OkO o) (hkv : TrOK (.leaf key val)) : TrOK (mpT o key val) := by
 cases o with
 | none => exact hkv
 | some t => exact putT_ok (kh key) (putAt t key) key val (fd_le _ _) (kh_size (by have := (okK_iff.1 hkv.1).2; omega)) hkv.1 hkv.2 t ho
theorem l07Put_any (o : Option Tr) (hok : OkO o) (hri : RiseO o) (hsp : SepO o) (key val : ByteArray) (hkv : TrOK (.leaf key val)) (B0 : Nat → Prop) (kv : Value) (w : World) (hB0 : ∀ x, B0 x → x < w.heap.size) (hB : Brs B0 w kv (brOf o).kids) :
  Calls Tryz.prog 47 #[.agg #[.string (brOf o).key, .string (brOf o).val, .int .i64 (brOf o).at_, kv], .string key, .string val] w fun e w' => DrR B0 (mpT o key val).toBr w e w' := by
 obtain ⟨sa, cap, rfl, hcap, hcm⟩ := hB.shape
 have hk24 := (okK_iff.1 hkv.1).2
 have B1 := Hd ((bal w (.cells #[.string (brOf o).key, .string (brOf o).val, .int .i64 (brOf o).at_, .slice sa (brOf o).kids.length cap] 39)).alloc (by simp) (.cells #[.string ⟨#[]⟩, .string ⟨#[]⟩, .int .i64 0, .slice none 0 0] 39))
 have X1 := Hd ((Blk.new w #[.string (brOf o).key, .string (brOf o).val, .int .i64 (brOf o).at_, .slice sa (brOf o).kids.length cap] 39 w.heap.size rfl).alloc (.cells #[.string ⟨#[]⟩, .string ⟨#[]⟩, .int .i64 0, .slice none 0 0] 39))
 have R1 := Hd (Blk.new (w.alloc (.cells #[.string (brOf o).key, .string (brOf o).val, .int .i64 (brOf o).at_, .slice sa (brOf o).kids.length cap] 39)) #[.string ⟨#[]⟩, .string ⟨#[]⟩, .int .i64 0, .slice none 0 0] 39 (w.heap.size + 1) (by simp))
 have HRS := Hd (show w.heap.size < w.heap.size + 1 by omega)
 have HE := Hd (fun wx => l07Empty_any (brOf o).key (brOf o).val (brOf o).at_ (brOf o).kids sa cap wx (by omega))
 have e9 : Br.mk (brOf o).key (brOf o).val (brOf o).at_ (brOf o).kids = brOf o := by cases brOf o; rfl
 rw [e9] at HE
 clear e9
 have HKB := Hd hB
 have HNW := Hd (fun wx => l07New_any key val wx)
 clear hB
 cases o with
 | none =>
  have he : emptyBr (brOf none) = true := (empty_iff _ _ _ _).2 ⟨rfl, rfl, rfl, rfl⟩
  rw [he] at HE
  have HGR : Hid (∀ w', Below w.heap.size w w' → DrR B0 (mpT none key val).toBr w (.returned (.agg #[.string key, .string val, .int .i64 256, .slice none 0 0])) w') := Hd (fun w' hb => ⟨none, 0, 0, rfl, .nil _ _ (by unfold maxLen; omega), hb⟩)
  dsimp only [brOf, Br.key, Br.val, Br.at_, Br.kids, List.length_nil] at *
  clear he HKB
  go_enter Tryz.func47, Tryz.ntmps47
  go_wp2_with fail
  generalize (w.alloc (.cells #[.string ⟨#[]⟩, .string ⟨#[]⟩, .int .i64 0, .slice sa 0 cap] 39)).alloc (.cells #[.string ⟨#[]⟩, .string ⟨#[]⟩, .int .i64 0, .slice none 0 0] 39) = w1 at *
  generalize w.heap.size + 1 = R at *
  refine (uh HE w1).mono ?_
  rintro e w2 ⟨rfl, hb2⟩
  have B2 := hbt B1 hb2
  have R2 := Hd ((uh R1).below hb2)
  clear hb2 B1 R1 X1
  go_wp2_with fail
  refine (uh HNW w2).mono ?_
  rintro e w3 ⟨rfl, hb3⟩
  have B3 := hbt B2 hb3
  have R3 := Hd ((uh R2).below hb3)
  clear hb3 B2 R2
  have r0 := (uh R3).cell 0 rfl
  have r1 := (uh R3).cell 1 rfl
  have r2 := (uh R3).cell 2 rfl
  have r3 := (uh R3).cell 3 rfl
  have f0 := (uh R3).fro 0
  have f1 := (uh R3).fro 1
  have f2 := (uh R3).fro 2
  have f3 := (uh R3).fro 3
  have hZ := set4_blk (uh R3) (.string key) (.string val) (.int .i64 256) (.slice none 0 0)
  have z0 := hZ.cell 0 rfl
  have z1 := hZ.cell 1 rfl
  have z2 := hZ.cell 2 rfl
  have z3 := hZ.cell 3 rfl
  have HT4 := Hd (set4_touch w3 R (.string key) (.string val) (.int .i64 256) (.slice none 0 0))
  have HBF := Hd ((uh B3).trans ((uh HT4).below (uh B3).size (fun q hq e => by have := (uh HRS); omega)))
  unfold set4 at z0 z1 z2 z3
  clear hZ
  go_wp2_with fail
  refine bodyPost_ret (v := .agg #[.string key, .string val, .int .i64 256, .slice none 0 0]) (by simp [results, Tryz.results47, go_sem, z0, z1, z2, z3]) rfl ?_
  exact uh HGR _ (uh HBF)
 | some t =>
  rw [show emptyBr (brOf (some t)) = false from not_empty hok] at HE
  have HHS := Hd (fun wx => l07Hash_any key wx (by omega))
  have hks := kh_size (k := key) (by omega)
  have hlo := lead_ok (kh key) t hok
  have hlk := kh_size (k := (leadL (kh key) t).1) (by have := (okK_iff.1 hlo.1).2; omega)
  dsimp only [brOf] at *
  have HNR := Hd (fun wx (hx : Below w.heap.size w wx) => l07Near_any (kh key) hks t hok hri _ _ wx ((uh HKB).blw hx))
  have HDF := Hd (fun wx => l07Differ_any (kh key) (kh (leadL (kh key) t).1) wx hks hlk)
  rw [fd_comm] at HDF
  have HIN := Hd (fun wx (hx : Below w.heap.size w wx) => l07Insert_any key val (kh key) hks (fd (kh (leadL (kh key) t).1) (kh key)) (fd_le _ _) hkv t hok 0 hri hsp.1 rfl B0 _ wx (fun x h9 => Nat.lt_of_lt_of_le (hB0 x h9) hx.size) ((uh HKB).blw hx))
  have HMT : Hid (mpT (some t) key val = putT (kh key) (fd (kh (leadL (kh key) t).1) (kh key)) key val t) := rfl
  have HGR : Hid (∀ sa n cap w', Brs (fun x => B0 x ∨ w.heap.size ≤ x) w' (.slice sa n cap) (putT (kh key) (fd (kh (leadL (kh key) t).1) (kh key)) key val t).toBr.kids → Below w.heap.size w w' → DrR B0 (mpT (some t) key val).toBr w (.returned (.agg #[.string (putT (kh key) (fd (kh (leadL (kh key) t).1) (kh key)) key val t).toBr.key, .string (putT (kh key) (fd (kh (leadL (kh key) t).1) (kh key)) key val t).toBr.val, .int .i64 (putT (kh key) (fd (kh (leadL (kh key) t).1) (kh key)) key val t).toBr.at_, .slice sa n cap])) w') := Hd (fun sa n cap w' h1 hb => ⟨sa, n, cap, rfl, h1, hb⟩)
  generalize (putT (kh key) (fd (kh (leadL (kh key) t).1) (kh key)) key val t).toBr = D at *
  generalize kh (leadL (kh key) t).1 = lh at *
  generalize fd lh (kh key) = A at *
  generalize kh key = hh at *
  clear hlo hlk hks hok hri hsp hkv HMT HKB
  go_enter Tryz.func47, Tryz.ntmps47
  go_wp2_with fail
  generalize (w.alloc (.cells #[.string t.toBr.key, .string t.toBr.val, .int .i64 t.toBr.at_, .slice sa t.toBr.kids.length cap] 39)).alloc (.cells #[.string ⟨#[]⟩, .string ⟨#[]⟩, .int .i64 0, .slice none 0 0] 39) = w1 at *
  generalize w.heap.size + 1 = R at *
  refine (uh HE w1).mono ?_
  rintro e w2 ⟨rfl, hb2⟩
  have B2 := hbt B1 hb2
  have X2 := Hd ((uh X1).below hb2)
  have R2 := Hd ((uh R1).below hb2)
  clear hb2 B1 R1 X1 HE
  go_wp2_with fail
  refine (uh HHS w2).mono ?_
  rintro e w3 ⟨rfl, hb3⟩
  have B3 := hbt B2 hb3
  have X3 := Hd ((uh X2).below hb3)
  have R3 := Hd ((uh R2).below hb3)
  clear hb3 B2 X2 R2 HHS
  have x0 := (uh X3).cell 0 rfl
  have x1 := (uh X3).cell 1 rfl
  have x2 := (uh X3).cell 2 rfl
  have x3 := (uh X3).cell 3 rfl
  go_wp2_with fail
  refine (uh HNR w3 (uh B3)).mono ?_
  rintro e w4 ⟨rfl, hb4⟩
  have B4 := hbt B3 hb4
  have X4 := Hd ((uh X3).below hb4)
  have R4 := Hd ((uh R3).below hb4)
  clear hb4 B3 X3 R3 HNR x0 x1 x2 x3
  go_wp2_with fail
  refine (uh HDF w4).mono ?_
  rintro e w9 ⟨rfl, hw9⟩
  subst w9
  have x0 := (uh X4).cell 0 rfl
  have x1 := (uh X4).cell 1 rfl
  have x2 := (uh X4).cell 2 rfl
  have x3 := (uh X4).cell 3 rfl
  have HSX : Hid (∀ wx, Below w4.heap.size w4 wx → wx.cell? ⟨w.heap.size, 0, none⟩ = some (.string t.toBr.key) ∧ wx.cell? ⟨w.heap.size, 1, none⟩ = some (.string t.toBr.val) ∧ wx.cell? ⟨w.heap.size, 2, none⟩ = some (.int .i64 t.toBr.at_) ∧ wx.cell? ⟨w.heap.size, 3, none⟩ = some (.slice sa t.toBr.kids.length cap)) := Hd (fun wx hb => by
   have X := (uh X4).below hb
   exact ⟨X.cell 0 rfl, X.cell 1 rfl, X.cell 2 rfl, X.cell 3 rfl⟩)
  go_upto_region 5 with fail
  go_cut [] (fun wx => ∃ (w7 : World) (s7 : Option Addr) (n7 c7 : Nat), Brs (fun x => B0 x ∨ w4.heap.size ≤ x) w7 (.slice s7 n7 c7) D.kids ∧ Below w4.heap.size w4 w7 ∧ wx = set4 w7 R (.string D.key) (.string D.val) (.int .i64 D.at_) (.slice s7 n7 c7))
  case first =>
   go_wp2_with fail
   go_region_law (first
    | (go_simp; go_at_call 67; refine (uh HIN w5 ((uh B4).trans ((uh HB5).mono (uh B4).size))).mono ?_; rintro e w7 ⟨s7, n7, c7, rfl, hBr7, hb7⟩; (have HB7 := Hd (And.intro (hBr7.mono (T := fun x => B0 x ∨ w4.heap.size ≤ x) (fun x hx => hx.imp id (fun h => by have := (uh HB5).size; omega))) ((uh HB5).trans (hb7.mono (uh HB5).size)))); clear hBr7 hb7; (have R7 := (uh R4).below (uh HB7).2); (have r0 := R7.cell 0 rfl); (have r1 := R7.cell 1 rfl); (have r2 := R7.cell 2 rfl); (have r3 := R7.cell 3 rfl); (have f0 := R7.fro 0); (have f1 := R7.fro 1); (have f2 := R7.fro 2); (have f3 := R7.fro 3); clear R7; go_simp)
    | (go_simp; go_at_call 64; refine (uh HNW _).mono ?_; rintro e w5 ⟨rfl, hb5⟩; (have HB5 := Hd ((below_drewN (Below.refl w4.heap.size w4) 1).trans hb5)); clear hb5; (obtain ⟨y0, y1, y2, y3⟩ := uh HSX w5 (uh HB5)); go_simp))
   all_goals
    go_wp2_with fail
    go_meet
    exact ⟨w7, s7, n7, c7, (uh HB7).1, (uh HB7).2, rfl⟩
  case rest =>
   obtain ⟨w7, s7, n7, c7, hBr7, hb7, hwc⟩ := hcut
   have B7 := (uh B4).trans (hb7.mono (uh B4).size)
   have hZ := set4_blk ((uh R4).below hb7) (.string D.key) (.string D.val) (.int .i64 D.at_) (.slice s7 n7 c7)
   have HT4 := set4_touch w7 R (.string D.key) (.string D.val) (.int .i64 D.at_) (.slice s7 n7 c7)
   rw [← hwc] at hZ HT4
   have HBF := Hd (B7.trans (HT4.below B7.size (fun q hq e => by have := (uh HRS); omega)))
   have hR4 := (uh R4).1
   have HBR := Hd ((hBr7.touch HT4 (fun q hq e => by have e2 : q = R := e; have := uh HRS; rcases hq with hq | hq; (have h8 := hB0 q hq; omega); omega)).mono (T := fun x => B0 x ∨ w.heap.size ≤ x) (fun x hx => hx.imp id (fun h => by have := (uh B4).size; omega)))
   have z0 := hZ.cell 0 rfl
   have z1 := hZ.cell 1 rfl
   have z2 := hZ.cell 2 rfl
   have z3 := hZ.cell 3 rfl
   clear hZ HT4 B7 hBr7 hb7 hwc B4 X4 R4 x0 x1 x2 x3 HSX HIN HNW HDF
   obtain ⟨w8, hw8⟩ : ∃ w8, w8 = wc := ⟨_, rfl⟩
   subst hw8
   go_wp2_with fail
   refine bodyPost_ret (v := .agg #[.string D.key, .string D.val, .int .i64 D.at_, .slice s7 n7 c7]) (by simp [results, Tryz.results47, go_sem, z0, z1, z2, z3]) rfl ?_
   exact uh HGR _ _ _ _ (uh HBR) (uh HBF)
end Go.Proofs.YtlbcdngidfjogaaGreatDoor.Sha
namespace Go.Proofs.YtlbcdngidfjogaaGreatDoor.Sha
set_option maxRecDepth 100000
set_option maxHeartbeats 8000000
open Go.ChangeShapes Go.WideShapes Go.ChangeAt Go.RowKit
set_option linter.unusedVariables false
def vbV (kind : Int) (val was : ByteArray) : ByteArray := if kind = 2 then was ++ val else if kind = 3 then was else val
theorem valueBy_any (kind ses seq : Int) (key val was : ByteArray) (w : World) (hw : was.size ≤ 1048576) (hv : val.size ≤ 1048576) :
  Calls Tryz.prog 54 #[.agg #[.int .i64 kind, .int .i64 ses, .int .i64 seq, .string key, .string val], .string was] w fun e w' => e = .returned (.string (vbV kind val was)) ∧ Below w.heap.size w w' := by
 by_cases h2 : kind = 2
 ·have H := Hd (show vbV kind val was = was ++ val by unfold vbV; rw [if_pos h2])
  subst kind
  go_enter Tryz.func54, Tryz.ntmps54
  go_wp2_with fail
  go_ret
  refine ⟨(congrArg (fun x => Ending.returned (Value.string x)) (uh H)).symm, (Below.refl _ _).alloc (Nat.le_refl _) _⟩
 ·by_cases h3 : kind = 3
  ·have H := Hd (show vbV kind val was = was by unfold vbV; rw [if_neg h2, if_pos h3])
   subst kind
   go_enter Tryz.func54, Tryz.ntmps54
   go_wp2_with fail
   go_ret
   refine ⟨(congrArg (fun x => Ending.returned (Value.string x)) (uh H)).symm, (Below.refl _ _).alloc (Nat.le_refl _) _⟩
  ·have H := Hd (show vbV kind val was = val by unfold vbV; rw [if_neg h2, if_neg h3])
   go_enter Tryz.func54, Tryz.ntmps54
   go_wp2_with fail
   go_ret
   refine ⟨(congrArg (fun x => Ending.returned (Value.string x)) (uh H)).symm, (Below.refl _ _).alloc (Nat.le_refl _) _⟩
theorem wrapEx (x : Int) (h0 : -9223372036854775808 ≤ x) (h1 : x < 9223372036854775808) : IntKind.i64.wrap x = x := by
 simp only [IntKind.wrap, IntKind.bits, IntKind.signed]
 simp
 omega
def exV (n k : Nat) (there : Bool) (z : Nat) : Int := if there = true then max ((n : Int) + 1 - 50) ((z : Int) - 60) else max (max ((n : Int) + 1 - 50) ((z : Int) - 60)) ((k : Int) + 1 - 40)
theorem excess_of (p n k : Nat) (there : Bool) (value : ByteArray) (w : World) (hn : n ≤ 1048576) (hk : k ≤ 1000) (hv : value.size ≤ 2097152)
  (hP : ∀ wx, Below w.heap.size w wx → Calls Tryz.prog 59 #[.pointer (some ⟨p, 0, none⟩)] wx fun e w' => e = .returned (.int .i64 n) ∧ w' = wx)
  (hK : ∀ wx, Below w.heap.size w wx → Calls Tryz.prog 71 #[.pointer (some ⟨p, 1, none⟩)] wx fun e w' => e = .returned (.int .i64 k) ∧ Below wx.heap.size wx w') :
  Calls Tryz.prog 55 #[.pointer (some ⟨p, 0, none⟩), .bool there, .string value] w fun e w' => e = .returned (.int .i64 (exV n k there value.size)) ∧ Below w.heap.size w w' := by
 have HP := Hd hP
 have HK := Hd hK
 clear hP hK
 go_enter Tryz.func55, Tryz.ntmps55
 go_wp2_with fail
 refine (uh HP _ (Below.refl _ _)).mono ?_
 rintro e w9 ⟨rfl, hw9⟩
 subst w9
 have q1 : IntKind.i64.wrap ((n : Int) + 1) = (n : Int) + 1 := wrapEx _ (by omega) (by omega)
 have q2 : IntKind.i64.wrap ((n : Int) + 1 - 50) = (n : Int) + 1 - 50 := wrapEx _ (by omega) (by omega)
 have q3 : IntKind.i64.wrap ((value.size : Int) - 60) = (value.size : Int) - 60 := wrapEx _ (by omega) (by omega)
 have q4 : IntKind.i64.wrap ((k : Int) + 1) = (k : Int) + 1 := wrapEx _ (by omega) (by omega)
 have q5 : IntKind.i64.wrap ((k : Int) + 1 - 40) = (k : Int) + 1 - 40 := wrapEx _ (by omega) (by omega)
 cases there
 ·go_wp2_with fail
  all_goals
   refine (uh HK _ (Below.refl _ _)).mono ?_
   rintro e w1 ⟨rfl, hb1⟩
   have KB := Hd hb1
   clear hb1
   go_wp2_with fail
  all_goals
   go_ret
   exact ⟨ret_int (by unfold exV; simp only [Bool.false_eq_true, if_false]; omega), uh KB⟩
 ·go_wp2_with fail
  all_goals
   go_ret
   exact ⟨ret_int (by unfold exV; simp only [if_true]; omega), Below.refl _ _⟩
end Go.Proofs.YtlbcdngidfjogaaGreatDoor.Sha
