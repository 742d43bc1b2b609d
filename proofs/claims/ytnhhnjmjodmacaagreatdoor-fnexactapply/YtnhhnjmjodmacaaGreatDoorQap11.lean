/- What the proof of the claim needs (joined by program): BrN BrR. -/
import Derived.Test.YtnhhnjmjodmacaaGreatDoorQap10
import Derived.Test.YtnhhnjmjodmacaaGreatDoorQap03
import Derived.Deep.RegionLaw
namespace Go.Proofs.YtnhhnjmjodmacaaGreatDoor.Sha
set_option maxRecDepth 100000
set_option maxHeartbeats 8000000
open Go.ChangeShapes Go.WideShapes Go.ChangeAt Go.RowKit
set_option linter.unusedVariables false
set_option linter.unusedSimpArgs false
def lfC (k v : ByteArray) : List Value := [.string k, .string v, .string (kh k), .int .i64 256, .pointer none, .pointer none]
def fkC (h : ByteArray) (a : Nat) (p q : Nat) : List Value := [.string ⟨#[]⟩, .string ⟨#[]⟩, .string h, .int .i64 a, .pointer (some ⟨p, 0, none⟩), .pointer (some ⟨q, 0, none⟩)]
inductive Nd (w : World) : (Nat → Prop) → Nat → Tr → Prop
 | leaf (S : Nat → Prop) (p : Nat) (k v : ByteArray) : S p → Blk w p (lfC k v) → Nd w S p (.leaf k v)
 | fork (S Sl Sr : Nat → Prop) (p a : Nat) (h : ByteArray) (l r : Tr) (pl pr : Nat) : S p → (∀ b, Sl b → S b ∧ b ≠ p) → (∀ b, Sr b → S b ∧ b ≠ p) → (∀ b, Sl b → ¬ Sr b) → Blk w p (fkC h a pl pr) → Nd w Sl pl l → Nd w Sr pr r → Nd w S p (.fork a h l r)
theorem Nd.touch {w w' : World} {S T : Nat → Prop} {p : Nat} {t : Tr} (h : Nd w S p t) (ht : Touch T w w') (hn : ∀ k, S k → ¬ T k) : Nd w' S p t := by
 induction h with
 | leaf S p k v h0 h1 => exact .leaf S p k v h0 (h1.kept ht (hn p h0))
 | fork S Sl Sr p a h l r pl pr h0 h1 h2 h3 h4 _ _ i1 i2 => exact .fork S Sl Sr p a h l r pl pr h0 h1 h2 h3 (h4.kept ht (hn p h0)) (i1 (fun k hk => hn k (h1 k hk).1)) (i2 (fun k hk => hn k (h2 k hk).1))
theorem Nd.blw {w w' : World} {S : Nat → Prop} {p : Nat} {t : Tr} (h : Nd w S p t) (hb : Below w.heap.size w w') : Nd w' S p t := h.touch (T := fun _ => False) (Touch.ofBelow hb) (fun _ _ h => h)
theorem Nd.mono {w : World} {S T : Nat → Prop} {p : Nat} {t : Tr} (h : Nd w S p t) (hst : ∀ k, S k → T k) : Nd w T p t := by
 cases h with
 | leaf S p k v h0 h1 => exact .leaf T p k v (hst p h0) h1
 | fork S Sl Sr p a h l r pl pr h0 h1 h2 h3 h4 h5 h6 => exact .fork T Sl Sr p a h l r pl pr (hst p h0) (fun b hb => ⟨hst b (h1 b hb).1, (h1 b hb).2⟩) (fun b hb => ⟨hst b (h2 b hb).1, (h2 b hb).2⟩) h3 h4 h5 h6
theorem Nd.here {w : World} {S : Nat → Prop} {p : Nat} {t : Tr} (h : Nd w S p t) : S p ∧ p < w.heap.size := by
 cases h with
 | leaf S p k v h0 h1 => exact ⟨h0, h1.1⟩
 | fork S Sl Sr p a h l r pl pr h0 h1 h2 h3 h4 => exact ⟨h0, h4.1⟩
theorem Nd.hashC {w : World} {S : Nat → Prop} {p : Nat} {t : Tr} (h : Nd w S p t) : w.cell? ⟨p, 2, none⟩ = some (.string t.hash) := by
 cases h with
 | leaf S p k v h0 h1 => exact h1.cell 2 rfl
 | fork S Sl Sr p a h l r pl pr h0 h1 h2 h3 h4 => exact h4.cell 2 rfl

theorem newLeaf_any (k v : ByteArray) (w : World) (hk : k.size ≤ 65536) (ht : Tab w) :
  Calls Tryz.prog 128 #[.string k, .string v] w fun e w' => ∃ p, e = .returned (.pointer (some ⟨p, 0, none⟩)) ∧ w.heap.size ≤ p ∧ Blk w' p (lfC k v) ∧ Below w.heap.size w w' := by
 obtain ⟨cap, w1, hcv, hB, hb1⟩ := str_bytesB k w (by unfold maxLen; omega)
 have HH := Hd (implHash_any _ _ w1 hB (ht.below hb1).2 (ht.below hb1).1)
 have HV : Hid (kh k = hashV (bytesI k)) := rfl
 have B1 := Hd hb1
 clear hb1 hB ht
 go_enter Tryz.func128, Tryz.ntmps128
 go_wp2_with fail
 refine (uh HH).mono ?_
 rintro e w3 ⟨rfl, hb3⟩
 have K := hbt B1 hb3
 clear hb3
 rw [← uh HV]
 have KN := Hd (Blk.new w3 #[.string k, .string v, .string (kh k), .int .i64 256, .pointer none, .pointer none] 149 w3.heap.size rfl)
 have K4 := Hd ((uh K).alloc (uh K).size (.cells #[.string k, .string v, .string (kh k), .int .i64 256, .pointer none, .pointer none] 149))
 go_wp2_with fail
 go_ret
 exact ⟨w3.heap.size, rfl, (uh K).size, uh KN, uh K4⟩
def kidsV (x y : ByteArray) (a p q : Nat) : Nat × Nat := if bitN x a = 0 then (p, q) else (q, p)
theorem newFork_any (a : Nat) (p q : Nat) (x y : ByteArray) (w : World) (ha : a < 256) (hx : x.size = 32) (hy : y.size = 32) (hxy : bitN x a ≠ bitN y a)
  (hp : p < w.heap.size) (hq : q < w.heap.size) (cx : w.cell? ⟨p, 2, none⟩ = some (.string x)) (cy : w.cell? ⟨q, 2, none⟩ = some (.string y)) :
  Calls Tryz.prog 115 #[.int .i64 a, .pointer (some ⟨p, 0, none⟩), .pointer (some ⟨q, 0, none⟩)] w fun e w' => ∃ f, e = .returned (.pointer (some ⟨f, 0, none⟩)) ∧ w.heap.size ≤ f ∧ Blk w' f (fkC x a (kidsV x y a p q).1 (kidsV x y a p q).2) ∧ Below w.heap.size w w' := by
 have HX := Hd (fun wx => hashBit_any x a wx hx ha)
 have HY := Hd (fun wx => hashBit_any y a wx hy ha)
 have X0 := Hd (Blk.new w #[.string ⟨#[]⟩, .string ⟨#[]⟩, .string x, .int .i64 a, .pointer none, .pointer none] 149 w.heap.size rfl)
 have B0 := Hd (bal w (.cells #[.string ⟨#[]⟩, .string ⟨#[]⟩, .string x, .int .i64 a, .pointer none, .pointer none] 149))
 have c1 := ((uh B0).cell (p := ⟨p, 2, none⟩) hp).trans cx
 have c2 := ((uh B0).cell (p := ⟨q, 2, none⟩) hq).trans cy
 have hpn : p ≠ w.heap.size := by omega
 have hqn : q ≠ w.heap.size := by omega
 have HK : Hid (kidsV x y a p q = if bitN x a = 0 then (p, q) else (q, p)) := rfl
 have hx1 := bitN_01 x a
 have hy1 := bitN_01 y a
 generalize bitN x a = bx at *
 generalize bitN y a = by' at *
 generalize kidsV x y a p q = kk at *
 go_enter Tryz.func115, Tryz.ntmps115
 go_wp2_with fail
 clear cx cy
 generalize w.alloc (.cells #[.string ⟨#[]⟩, .string ⟨#[]⟩, .string x, .int .i64 a, .pointer none, .pointer none] 149) = w1 at *
 generalize hX : w.heap.size = X at *
 have f4 := (uh X0).fro 4
 have f5 := (uh X0).fro 5
 have d4 := (uh X0).cell 4 rfl
 have d5 := (uh X0).cell 5 rfl
 rcases hx1 with rfl | rfl
 ·obtain rfl : by' = 1 := by omega
  have s1 : (w1.setCell ⟨X, 4, none⟩ (.pointer (some ⟨p, 0, none⟩))).drew.cell? ⟨p, 2, none⟩ = some (.string x) := (World.cell?_setCell_other _ _ _ _ (by simp)).trans c1
  go_region_held3 (fun wx => wx.cell? ⟨p, 2, none⟩ = some (.string x)) (first | go_keep | exact s1) ((go_at_call 114; refine (uh HX _).mono ?_; rintro e w9 ⟨rfl, hw9⟩; subst w9))
  have Y2 : Hid (Blk (w1.setCell ⟨X, 4, none⟩ (.pointer (some ⟨p, 0, none⟩))).drew X ([.string ⟨#[]⟩, .string ⟨#[]⟩, .string x, .int .i64 a, .pointer none, .pointer none].set 4 (.pointer (some ⟨p, 0, none⟩)))) := Hd (((uh X0).set 4 (.pointer (some ⟨p, 0, none⟩)) (by simp)).drewN 1)
  have B2 : Hid (Below X w (w1.setCell ⟨X, 4, none⟩ (.pointer (some ⟨p, 0, none⟩))).drew) := Hd (((uh B0).setCell (p := ⟨X, 4, none⟩) (Nat.le_refl _) (.pointer (some ⟨p, 0, none⟩))).drew)
  have e2 : (w1.setCell ⟨X, 4, none⟩ (.pointer (some ⟨p, 0, none⟩))).drew.cell? ⟨q, 2, none⟩ = some (.string y) := (World.cell?_setCell_other _ _ _ _ (by simp)).trans c2
  generalize (w1.setCell ⟨X, 4, none⟩ (.pointer (some ⟨p, 0, none⟩))).drew = w2 at *
  clear d4 d5 f4 f5 c1 c2 s1
  have f4 := (uh Y2).fro 4
  have f5 := (uh Y2).fro 5
  have d4 := (uh Y2).cell 4 rfl
  have d5 := (uh Y2).cell 5 rfl
  have s2 : (w2.setCell ⟨X, 5, none⟩ (.pointer (some ⟨q, 0, none⟩))).drew.cell? ⟨q, 2, none⟩ = some (.string y) := (World.cell?_setCell_other _ _ _ _ (by simp)).trans e2
  go_wp2_with fail
  go_region_held3 (fun wx => wx.cell? ⟨q, 2, none⟩ = some (.string y)) (first | go_keep | exact s2) ((go_at_call 114; refine (uh HY _).mono ?_; rintro e w9 ⟨rfl, hw9⟩; subst w9))
  have Y3 : Hid (Blk (w2.setCell ⟨X, 5, none⟩ (.pointer (some ⟨q, 0, none⟩))).drew X (([.string ⟨#[]⟩, .string ⟨#[]⟩, .string x, .int .i64 a, .pointer none, .pointer none].set 4 (.pointer (some ⟨p, 0, none⟩))).set 5 (.pointer (some ⟨q, 0, none⟩)))) := Hd (((uh Y2).set 5 (.pointer (some ⟨q, 0, none⟩)) (by simp)).drewN 1)
  have B3 : Hid (Below X w (w2.setCell ⟨X, 5, none⟩ (.pointer (some ⟨q, 0, none⟩))).drew) := Hd (((uh B2).setCell (p := ⟨X, 5, none⟩) (Nat.le_refl _) (.pointer (some ⟨q, 0, none⟩))).drew)
  generalize (w2.setCell ⟨X, 5, none⟩ (.pointer (some ⟨q, 0, none⟩))).drew = w3 at *
  clear d4 d5 f4 f5 e2 s2
  go_wp2_with fail
  go_ret
  refine ⟨X, rfl, Nat.le_of_eq hX, ?_, by rw [hX]; exact uh B3⟩
  rw [uh HK]
  exact uh Y3
 ·obtain rfl : by' = 0 := by omega
  have s1 : (w1.setCell ⟨X, 5, none⟩ (.pointer (some ⟨p, 0, none⟩))).drew.cell? ⟨p, 2, none⟩ = some (.string x) := (World.cell?_setCell_other _ _ _ _ (by simp)).trans c1
  go_region_held3 (fun wx => wx.cell? ⟨p, 2, none⟩ = some (.string x)) (first | go_keep | exact s1) ((go_at_call 114; refine (uh HX _).mono ?_; rintro e w9 ⟨rfl, hw9⟩; subst w9))
  have Y2 : Hid (Blk (w1.setCell ⟨X, 5, none⟩ (.pointer (some ⟨p, 0, none⟩))).drew X ([.string ⟨#[]⟩, .string ⟨#[]⟩, .string x, .int .i64 a, .pointer none, .pointer none].set 5 (.pointer (some ⟨p, 0, none⟩)))) := Hd (((uh X0).set 5 (.pointer (some ⟨p, 0, none⟩)) (by simp)).drewN 1)
  have B2 : Hid (Below X w (w1.setCell ⟨X, 5, none⟩ (.pointer (some ⟨p, 0, none⟩))).drew) := Hd (((uh B0).setCell (p := ⟨X, 5, none⟩) (Nat.le_refl _) (.pointer (some ⟨p, 0, none⟩))).drew)
  have e2 : (w1.setCell ⟨X, 5, none⟩ (.pointer (some ⟨p, 0, none⟩))).drew.cell? ⟨q, 2, none⟩ = some (.string y) := (World.cell?_setCell_other _ _ _ _ (by simp)).trans c2
  generalize (w1.setCell ⟨X, 5, none⟩ (.pointer (some ⟨p, 0, none⟩))).drew = w2 at *
  clear d4 d5 f4 f5 c1 c2 s1
  have f4 := (uh Y2).fro 4
  have f5 := (uh Y2).fro 5
  have d4 := (uh Y2).cell 4 rfl
  have d5 := (uh Y2).cell 5 rfl
  have s2 : (w2.setCell ⟨X, 4, none⟩ (.pointer (some ⟨q, 0, none⟩))).drew.cell? ⟨q, 2, none⟩ = some (.string y) := (World.cell?_setCell_other _ _ _ _ (by simp)).trans e2
  go_wp2_with fail
  go_region_held3 (fun wx => wx.cell? ⟨q, 2, none⟩ = some (.string y)) (first | go_keep | exact s2) ((go_at_call 114; refine (uh HY _).mono ?_; rintro e w9 ⟨rfl, hw9⟩; subst w9))
  have Y3 : Hid (Blk (w2.setCell ⟨X, 4, none⟩ (.pointer (some ⟨q, 0, none⟩))).drew X (([.string ⟨#[]⟩, .string ⟨#[]⟩, .string x, .int .i64 a, .pointer none, .pointer none].set 5 (.pointer (some ⟨p, 0, none⟩))).set 4 (.pointer (some ⟨q, 0, none⟩)))) := Hd (((uh Y2).set 4 (.pointer (some ⟨q, 0, none⟩)) (by simp)).drewN 1)
  have B3 : Hid (Below X w (w2.setCell ⟨X, 4, none⟩ (.pointer (some ⟨q, 0, none⟩))).drew) := Hd (((uh B2).setCell (p := ⟨X, 4, none⟩) (Nat.le_refl _) (.pointer (some ⟨q, 0, none⟩))).drew)
  generalize (w2.setCell ⟨X, 4, none⟩ (.pointer (some ⟨q, 0, none⟩))).drew = w3 at *
  clear d4 d5 f4 f5 e2 s2
  go_wp2_with fail
  go_ret
  refine ⟨X, rfl, Nat.le_of_eq hX, ?_, by rw [hX]; exact uh B3⟩
  rw [uh HK]
  exact uh Y3
def LeafR (k v : ByteArray) (n room rb : Nat) (w : World) (e : Ending) (w' : World) : Prop :=
 (if okK k = true ∧ v.size ≤ 60 ∧ n = 0 ∧ room ≠ 0 then ∃ p, e = .returned (.pointer (some ⟨p, 0, none⟩)) ∧ w.heap.size ≤ p ∧ Blk w' p (lfC k v) ∧ Blk w' rb [.int .i64 (room - 1 : Nat)] else e = .returned (.pointer none)) ∧ Touch (fun b => b = rb) w w'
theorem LeafR.no {k v : ByteArray} {n room rb : Nat} {w w' : World} (h : ¬ (okK k = true ∧ v.size ≤ 60 ∧ n = 0 ∧ room ≠ 0)) (ht : Touch (fun b => b = rb) w w') : LeafR k v n room rb w (.returned (.pointer none)) w' := by
 unfold LeafR; rw [if_neg h]; exact ⟨rfl, ht⟩
theorem LeafR.yes {k v : ByteArray} {n room rb p : Nat} {w w' : World} (h : okK k = true ∧ v.size ≤ 60 ∧ n = 0 ∧ room ≠ 0) (h1 : w.heap.size ≤ p) (h2 : Blk w' p (lfC k v)) (h3 : Blk w' rb [.int .i64 (room - 1 : Nat)]) (ht : Touch (fun b => b = rb) w w') : LeafR k v n room rb w (.returned (.pointer (some ⟨p, 0, none⟩))) w' := by
 unfold LeafR; rw [if_pos h]; exact ⟨⟨p, rfl, h1, h2, h3⟩, ht⟩
theorem leaf_any (k v : ByteArray) (at_ : Int) (a : Option Addr) (n cap : Nat) (rb room : Nat) (w0 w : World) (hk : k.size ≤ maxLen) (hv : v.size ≤ maxLen) (hn : n ≤ maxLen) (hr : Blk w rb [.int .i64 room]) (hroom : room ≤ 40) (ht : Tab w0) (hb0 : Below w0.heap.size w0 w) (hrb : w0.heap.size ≤ rb) :
  Calls Tryz.prog 112 #[.pointer (some ⟨rb, 0, none⟩), .agg #[.string k, .string v, .int .i64 at_, .slice a n cap]] w fun e w' => LeafR k v n room rb w e w' := by
 have X0 := Hd (Blk.new w #[.string k, .string v, .int .i64 at_, .slice a n cap] 35 w.heap.size rfl)
 have T0 := Hd ((Touch.refl (fun b => b = rb) w).alloc (.cells #[.string k, .string v, .int .i64 at_, .slice a n cap] 35))
 have R0 := Hd (hr.alloc (.cells #[.string k, .string v, .int .i64 at_, .slice a n cap] 35))
 have B0 := Hd (hb0.alloc hb0.size (.cells #[.string k, .string v, .int .i64 at_, .slice a n cap] 35))
 have HK := Hd (fun wx => keyOKb_any k wx hk)
 have HO := Hd (okK_iff (k := k))
 have HNO := Hd (fun h w' ht => LeafR.no (k := k) (v := v) (n := n) (room := room) (rb := rb) (w := w) (w' := w') h ht)
 have HT := Hd ht
 have hrw := hr.1
 have hw0 := hb0.size
 clear hr ht hb0
 unfold maxLen at hv hn
 have r0 := (uh R0).cell 0 rfl
 have rf := (uh R0).fro 0
 have HPZ : Hid (∀ ok, ok = okK k → ok = true → v.size ≤ 60 → n = 0 → room ≠ 0 → okK k = true ∧ v.size ≤ 60 ∧ n = 0 ∧ room ≠ 0) := Hd (fun ok h1 h2 h3 h4 h5 => ⟨h1 ▸ h2, h3, h4, h5⟩)
 have HOE : Hid (∃ ok, ok = okK k) := Hd ⟨_, rfl⟩
 obtain ⟨ok, hok⟩ := uh HOE
 have HOK := Hd hok
 rw [← hok] at HK HO
 clear hok HOE
 go_enter Tryz.func112, Tryz.ntmps112
 go_wp2_with fail
 generalize w.alloc (.cells #[.string k, .string v, .int .i64 at_, .slice a n cap] 35) = w1 at *
 have x0 := (uh X0).cell 0 rfl
 have x1 := (uh X0).cell 1 rfl
 have x3 := (uh X0).cell 3 rfl
 refine (uh HK w1).mono ?_
 rintro e w9 ⟨rfl, hw9⟩
 subst w9
 cases ok
 ·go_wp2_with fail
  go_ret
  exact uh HNO (fun h => by have := (uh HOK).trans h.1; cases this) _ (uh T0)
 have hk24 := (uh HO).1 rfl
 by_cases hv60 : 60 < v.size
 ·have h1 : (60 : Int) < (v.size : Int) := by omega
  go_wp2_with fail
  go_ret
  exact uh HNO (fun h => by omega) _ (uh T0)
 by_cases hn0 : 0 < n
 ·have h1 : (0 : Int) < (n : Int) := by omega
  go_wp2_with fail
  go_ret
  exact uh HNO (fun h => by omega) _ (uh T0)
 have hn1 : ¬ (0 : Int) < (n : Int) := by omega
 by_cases hr0 : room = 0
 ·have HR0 := Hd hr0
  have r1 : w1.cell? ⟨rb, 0, none⟩ = some (.int .i64 0) := by rw [r0, hr0]; rfl
  clear r0 hr0
  go_wp2_with fail
  go_ret
  exact uh HNO (fun h => h.2.2.2 (uh HR0)) _ (uh T0)
 have hr1 : ((room : Int) == 0) = false := by rw [beq_eq_false_iff_ne]; omega
 have HRN := Hd hr0
 clear hr0
 have R1 := Hd ((uh R0).set 0 (.int .i64 ((room : Int) - 1)) (by simp))
 have T1 := Hd ((uh T0).setCell ⟨rb, 0, none⟩ (.int .i64 ((room : Int) - 1)) (fun _ => rfl))
 have B1 := Hd ((uh B0).setCell (p := ⟨rb, 0, none⟩) hrb (.int .i64 ((room : Int) - 1)))
 have hxr : rb ≠ w.heap.size := by omega
 have X1 := Hd ((uh X0).other (C := rb) 0 (.int .i64 ((room : Int) - 1)) (by omega))
 have y0 := (uh X1).cell 0 rfl
 have y1 := (uh X1).cell 1 rfl
 go_wp2_with fail
 refine (newLeaf_any k v _ (by omega) ((uh HT).below (uh B1))).mono ?_
 rintro e w2 ⟨p, rfl, hp1, hp2, hp3⟩
 have RR := Hd (And.intro (Nat.le_trans (uh T1).size hp1) (And.intro hp2 (And.intro ((uh R1).below hp3) ((uh T1).trans (Touch.ofBelow hp3 (T := fun b => b = rb)) (fun _ _ h => h)))))
 clear hp1 hp2 hp3
 have HPP := Hd (uh HPZ true (uh HOK) rfl (by omega) (by omega) (uh HRN))
 go_wp2_with fail
 go_ret
 refine LeafR.yes (uh HPP) (uh RR).1 (uh RR).2.1 ?_ (uh RR).2.2.2
 have h9 := (uh RR).2.2.1
 have e9 : (room : Int) - 1 = ((room - 1 : Nat) : Int) := by have := (uh HPP).2.2.2; omega
 rw [e9] at h9
 exact h9
end Go.Proofs.YtnhhnjmjodmacaaGreatDoor.Sha
