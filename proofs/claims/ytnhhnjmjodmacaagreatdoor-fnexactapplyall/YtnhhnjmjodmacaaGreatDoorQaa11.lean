/- What the proof of the claim needs (joined by program): BrN BrD BrM BrT BrS BrC BrU BrV. -/
import Derived.Test.YtnhhnjmjodmacaaGreatDoorQaa10
import Derived.Test.YtnhhnjmjodmacaaGreatDoorQaa02
import Derived.Deep.RegionLaw
import Derived.Deep.DeepCutAuto
import Derived.Deep.RegionHeldLaw
namespace Go.Proofs.YtnhhnjmjodmacaaGreatDoor.Sha
set_option maxRecDepth 100000
set_option maxHeartbeats 8000000
open Go.ChangeShapes Go.WideShapes Go.ChangeAt Go.RowKit
set_option linter.unusedVariables false
set_option linter.unusedSimpArgs false
def lfC (k v : ByteArray) : List Value := [.string k, .string v, .string (kh k), .int .i64 256, .pointer none, .pointer none]
def fkC (h : ByteArray) (a : Nat) (p q : Nat) : List Value := [.string ⟨#[]⟩, .string ⟨#[]⟩, .string h, .int .i64 a, .pointer (some ⟨p, 0, none⟩), .pointer (some ⟨q, 0, none⟩)]
inductive Nd (w : World) : (Nat → Prop) → Nat → Tr → Prop
 | leaf (S : Nat → Prop) (p : Nat) (k v : ByteArray) : S p → Blk w p (lfC k v) → Nd w S p (.leaf k v)
 | fork (S Sl Sr : Nat → Prop) (p a : Nat) (h : ByteArray) (l r : Tr) (pl pr : Nat) : S p → (∀ b, Sl b → S b ∧ b ≠ p) → (∀ b, Sr b → S b ∧ b ≠ p) → (∀ b, Sl b → ¬ Sr b) → Blk w p (fkC h a pl pr) → Nd w Sl pl l → Nd w Sr pr r → Nd w S p (.fork a h l r)
theorem Nd.touch {w w' : World} {S T : Nat → Prop} {p : Nat} {t : Tr} (h : Nd w S p t) (ht : Touch T w w') (hn : ∀ k, S k → ¬ T k) : Nd w' S p t := by
 induction h with
 | leaf S p k v h0 h1 => exact .leaf S p k v h0 (h1.kept ht (hn p h0))
 | fork S Sl Sr p a h l r pl pr h0 h1 h2 h3 h4 _ _ i1 i2 => exact .fork S Sl Sr p a h l r pl pr h0 h1 h2 h3 (h4.kept ht (hn p h0)) (i1 (fun k hk => hn k (h1 k hk).1)) (i2 (fun k hk => hn k (h2 k hk).1))
theorem Nd.blw {w w' : World} {S : Nat → Prop} {p : Nat} {t : Tr} (h : Nd w S p t) (hb : Below w.heap.size w w') : Nd w' S p t := h.touch (T := fun _ => False) (Touch.ofBelow hb) (fun _ _ h => h)
theorem Nd.mono {w : World} {S T : Nat → Prop} {p : Nat} {t : Tr} (h : Nd w S p t) (hst : ∀ k, S k → T k) : Nd w T p t := by
 cases h with
 | leaf S p k v h0 h1 => exact .leaf T p k v (hst p h0) h1
 | fork S Sl Sr p a h l r pl pr h0 h1 h2 h3 h4 h5 h6 => exact .fork T Sl Sr p a h l r pl pr (hst p h0) (fun b hb => ⟨hst b (h1 b hb).1, (h1 b hb).2⟩) (fun b hb => ⟨hst b (h2 b hb).1, (h2 b hb).2⟩) h3 h4 h5 h6
theorem Nd.here {w : World} {S : Nat → Prop} {p : Nat} {t : Tr} (h : Nd w S p t) : S p ∧ p < w.heap.size := by
 cases h with
 | leaf S p k v h0 h1 => exact ⟨h0, h1.1⟩
 | fork S Sl Sr p a h l r pl pr h0 h1 h2 h3 h4 => exact ⟨h0, h4.1⟩
theorem Nd.hashC {w : World} {S : Nat → Prop} {p : Nat} {t : Tr} (h : Nd w S p t) : w.cell? ⟨p, 2, none⟩ = some (.string t.hash) := by
 cases h with
 | leaf S p k v h0 h1 => exact h1.cell 2 rfl
 | fork S Sl Sr p a h l r pl pr h0 h1 h2 h3 h4 => exact h4.cell 2 rfl

theorem newLeaf_any (k v : ByteArray) (w : World) (hk : k.size ≤ 65536) (ht : Tab w) :
  Calls Tryz.prog 128 #[.string k, .string v] w fun e w' => ∃ p, e = .returned (.pointer (some ⟨p, 0, none⟩)) ∧ w.heap.size ≤ p ∧ Blk w' p (lfC k v) ∧ Below w.heap.size w w' := by
 obtain ⟨cap, w1, hcv, hB, hb1⟩ := str_bytesB k w (by unfold maxLen; omega)
 have HH := Hd (implHash_any _ _ w1 hB (ht.below hb1).2 (ht.below hb1).1)
 have HV : Hid (kh k = hashV (bytesI k)) := rfl
 have B1 := Hd hb1
 clear hb1 hB ht
 go_enter Tryz.func128, Tryz.ntmps128
 go_wp2_with fail
 refine (uh HH).mono ?_
 rintro e w3 ⟨rfl, hb3⟩
 have K := hbt B1 hb3
 clear hb3
 rw [← uh HV]
 have KN := Hd (Blk.new w3 #[.string k, .string v, .string (kh k), .int .i64 256, .pointer none, .pointer none] 149 w3.heap.size rfl)
 have K4 := Hd ((uh K).alloc (uh K).size (.cells #[.string k, .string v, .string (kh k), .int .i64 256, .pointer none, .pointer none] 149))
 go_wp2_with fail
 go_ret
 exact ⟨w3.heap.size, rfl, (uh K).size, uh KN, uh K4⟩
def kidsV (x y : ByteArray) (a p q : Nat) : Nat × Nat := if bitN x a = 0 then (p, q) else (q, p)
theorem newFork_any (a : Nat) (p q : Nat) (x y : ByteArray) (w : World) (ha : a < 256) (hx : x.size = 32) (hy : y.size = 32) (hxy : bitN x a ≠ bitN y a)
  (hp : p < w.heap.size) (hq : q < w.heap.size) (cx : w.cell? ⟨p, 2, none⟩ = some (.string x)) (cy : w.cell? ⟨q, 2, none⟩ = some (.string y)) :
  Calls Tryz.prog 115 #[.int .i64 a, .pointer (some ⟨p, 0, none⟩), .pointer (some ⟨q, 0, none⟩)] w fun e w' => ∃ f, e = .returned (.pointer (some ⟨f, 0, none⟩)) ∧ w.heap.size ≤ f ∧ Blk w' f (fkC x a (kidsV x y a p q).1 (kidsV x y a p q).2) ∧ Below w.heap.size w w' := by
 have HX := Hd (fun wx => hashBit_any x a wx hx ha)
 have HY := Hd (fun wx => hashBit_any y a wx hy ha)
 have X0 := Hd (Blk.new w #[.string ⟨#[]⟩, .string ⟨#[]⟩, .string x, .int .i64 a, .pointer none, .pointer none] 149 w.heap.size rfl)
 have B0 := Hd (bal w (.cells #[.string ⟨#[]⟩, .string ⟨#[]⟩, .string x, .int .i64 a, .pointer none, .pointer none] 149))
 have c1 := ((uh B0).cell (p := ⟨p, 2, none⟩) hp).trans cx
 have c2 := ((uh B0).cell (p := ⟨q, 2, none⟩) hq).trans cy
 have hpn : p ≠ w.heap.size := by omega
 have hqn : q ≠ w.heap.size := by omega
 have HK : Hid (kidsV x y a p q = if bitN x a = 0 then (p, q) else (q, p)) := rfl
 have hx1 := bitN_01 x a
 have hy1 := bitN_01 y a
 generalize bitN x a = bx at *
 generalize bitN y a = by' at *
 generalize kidsV x y a p q = kk at *
 go_enter Tryz.func115, Tryz.ntmps115
 go_wp2_with fail
 clear cx cy
 generalize w.alloc (.cells #[.string ⟨#[]⟩, .string ⟨#[]⟩, .string x, .int .i64 a, .pointer none, .pointer none] 149) = w1 at *
 generalize hX : w.heap.size = X at *
 have f4 := (uh X0).fro 4
 have f5 := (uh X0).fro 5
 have d4 := (uh X0).cell 4 rfl
 have d5 := (uh X0).cell 5 rfl
 rcases hx1 with rfl | rfl
 ·obtain rfl : by' = 1 := by omega
  have s1 : (w1.setCell ⟨X, 4, none⟩ (.pointer (some ⟨p, 0, none⟩))).drew.cell? ⟨p, 2, none⟩ = some (.string x) := (World.cell?_setCell_other _ _ _ _ (by simp)).trans c1
  go_region_held3 (fun wx => wx.cell? ⟨p, 2, none⟩ = some (.string x)) (first | go_keep | exact s1) ((go_at_call 114; refine (uh HX _).mono ?_; rintro e w9 ⟨rfl, hw9⟩; subst w9))
  have Y2 : Hid (Blk (w1.setCell ⟨X, 4, none⟩ (.pointer (some ⟨p, 0, none⟩))).drew X ([.string ⟨#[]⟩, .string ⟨#[]⟩, .string x, .int .i64 a, .pointer none, .pointer none].set 4 (.pointer (some ⟨p, 0, none⟩)))) := Hd (((uh X0).set 4 (.pointer (some ⟨p, 0, none⟩)) (by simp)).drewN 1)
  have B2 : Hid (Below X w (w1.setCell ⟨X, 4, none⟩ (.pointer (some ⟨p, 0, none⟩))).drew) := Hd (((uh B0).setCell (p := ⟨X, 4, none⟩) (Nat.le_refl _) (.pointer (some ⟨p, 0, none⟩))).drew)
  have e2 : (w1.setCell ⟨X, 4, none⟩ (.pointer (some ⟨p, 0, none⟩))).drew.cell? ⟨q, 2, none⟩ = some (.string y) := (World.cell?_setCell_other _ _ _ _ (by simp)).trans c2
  generalize (w1.setCell ⟨X, 4, none⟩ (.pointer (some ⟨p, 0, none⟩))).drew = w2 at *
  clear d4 d5 f4 f5 c1 c2 s1
  have f4 := (uh Y2).fro 4
  have f5 := (uh Y2).fro 5
  have d4 := (uh Y2).cell 4 rfl
  have d5 := (uh Y2).cell 5 rfl
  have s2 : (w2.setCell ⟨X, 5, none⟩ (.pointer (some ⟨q, 0, none⟩))).drew.cell? ⟨q, 2, none⟩ = some (.string y) := (World.cell?_setCell_other _ _ _ _ (by simp)).trans e2
  go_wp2_with fail
  go_region_held3 (fun wx => wx.cell? ⟨q, 2, none⟩ = some (.string y)) (first | go_keep | exact s2) ((go_at_call 114; refine (uh HY _).mono ?_; rintro e w9 ⟨rfl, hw9⟩; subst w9))
  have Y3 : Hid (Blk (w2.setCell ⟨X, 5, none⟩ (.pointer (some ⟨q, 0, none⟩))).drew X (([.string ⟨#[]⟩, .string ⟨#[]⟩, .string x, .int .i64 a, .pointer none, .pointer none].set 4 (.pointer (some ⟨p, 0, none⟩))).set 5 (.pointer (some ⟨q, 0, none⟩)))) := Hd (((uh Y2).set 5 (.pointer (some ⟨q, 0, none⟩)) (by simp)).drewN 1)
  have B3 : Hid (Below X w (w2.setCell ⟨X, 5, none⟩ (.pointer (some ⟨q, 0, none⟩))).drew) := Hd (((uh B2).setCell (p := ⟨X, 5, none⟩) (Nat.le_refl _) (.pointer (some ⟨q, 0, none⟩))).drew)
  generalize (w2.setCell ⟨X, 5, none⟩ (.pointer (some ⟨q, 0, none⟩))).drew = w3 at *
  clear d4 d5 f4 f5 e2 s2
  go_wp2_with fail
  go_ret
  refine ⟨X, rfl, Nat.le_of_eq hX, ?_, by rw [hX]; exact uh B3⟩
  rw [uh HK]
  exact uh Y3
 ·obtain rfl : by' = 0 := by omega
  have s1 : (w1.setCell ⟨X, 5, none⟩ (.pointer (some ⟨p, 0, none⟩))).drew.cell? ⟨p, 2, none⟩ = some (.string x) := (World.cell?_setCell_other _ _ _ _ (by simp)).trans c1
  go_region_held3 (fun wx => wx.cell? ⟨p, 2, none⟩ = some (.string x)) (first | go_keep | exact s1) ((go_at_call 114; refine (uh HX _).mono ?_; rintro e w9 ⟨rfl, hw9⟩; subst w9))
  have Y2 : Hid (Blk (w1.setCell ⟨X, 5, none⟩ (.pointer (some ⟨p, 0, none⟩))).drew X ([.string ⟨#[]⟩, .string ⟨#[]⟩, .string x, .int .i64 a, .pointer none, .pointer none].set 5 (.pointer (some ⟨p, 0, none⟩)))) := Hd (((uh X0).set 5 (.pointer (some ⟨p, 0, none⟩)) (by simp)).drewN 1)
  have B2 : Hid (Below X w (w1.setCell ⟨X, 5, none⟩ (.pointer (some ⟨p, 0, none⟩))).drew) := Hd (((uh B0).setCell (p := ⟨X, 5, none⟩) (Nat.le_refl _) (.pointer (some ⟨p, 0, none⟩))).drew)
  have e2 : (w1.setCell ⟨X, 5, none⟩ (.pointer (some ⟨p, 0, none⟩))).drew.cell? ⟨q, 2, none⟩ = some (.string y) := (World.cell?_setCell_other _ _ _ _ (by simp)).trans c2
  generalize (w1.setCell ⟨X, 5, none⟩ (.pointer (some ⟨p, 0, none⟩))).drew = w2 at *
  clear d4 d5 f4 f5 c1 c2 s1
  have f4 := (uh Y2).fro 4
  have f5 := (uh Y2).fro 5
  have d4 := (uh Y2).cell 4 rfl
  have d5 := (uh Y2).cell 5 rfl
  have s2 : (w2.setCell ⟨X, 4, none⟩ (.pointer (some ⟨q, 0, none⟩))).drew.cell? ⟨q, 2, none⟩ = some (.string y) := (World.cell?_setCell_other _ _ _ _ (by simp)).trans e2
  go_wp2_with fail
  go_region_held3 (fun wx => wx.cell? ⟨q, 2, none⟩ = some (.string y)) (first | go_keep | exact s2) ((go_at_call 114; refine (uh HY _).mono ?_; rintro e w9 ⟨rfl, hw9⟩; subst w9))
  have Y3 : Hid (Blk (w2.setCell ⟨X, 4, none⟩ (.pointer (some ⟨q, 0, none⟩))).drew X (([.string ⟨#[]⟩, .string ⟨#[]⟩, .string x, .int .i64 a, .pointer none, .pointer none].set 5 (.pointer (some ⟨p, 0, none⟩))).set 4 (.pointer (some ⟨q, 0, none⟩)))) := Hd (((uh Y2).set 4 (.pointer (some ⟨q, 0, none⟩)) (by simp)).drewN 1)
  have B3 : Hid (Below X w (w2.setCell ⟨X, 4, none⟩ (.pointer (some ⟨q, 0, none⟩))).drew) := Hd (((uh B2).setCell (p := ⟨X, 4, none⟩) (Nat.le_refl _) (.pointer (some ⟨q, 0, none⟩))).drew)
  generalize (w2.setCell ⟨X, 4, none⟩ (.pointer (some ⟨q, 0, none⟩))).drew = w3 at *
  clear d4 d5 f4 f5 e2 s2
  go_wp2_with fail
  go_ret
  refine ⟨X, rfl, Nat.le_of_eq hX, ?_, by rw [hX]; exact uh B3⟩
  rw [uh HK]
  exact uh Y3
theorem empty_size {k : ByteArray} (h : k.size = 0) : k = ⟨#[]⟩ := by
 obtain ⟨⟨l⟩⟩ := k
 have : l.length = 0 := h
 rw [List.eq_nil_of_length_eq_zero this]
theorem ne_empty {k : ByteArray} (h : k ≠ ⟨#[]⟩) : k.toList.isEmpty = false := by
 cases hb : k.toList.isEmpty
 ·rfl
 ·exact absurd (empty_size (emptyB_iff.1 hb)) h

theorem Brs.bound {S : Nat → Prop} {w : World} {v : Value} {l : List Br} (h : Brs S w v l) : Brs (fun x => x < w.heap.size) w v l := by
 induction h with
 | nil a cap hc => exact .nil a cap hc
 | row b off cap l kv h0 h1 h2 h3 h4 h5 h6 h7 ih => exact .row b off cap l kv h0 h1 h2 h3 h3 h5 h6 ih
def PtrM (w : World) (S : Nat → Prop) (pv : Option Addr) : Option Tr → Prop
 | none => pv = none
 | some t => ∃ p, pv = some ⟨p, 0, none⟩ ∧ Nd w S p t
theorem PtrM.blw {w w' : World} {S : Nat → Prop} {pv : Option Addr} {o : Option Tr} (h : PtrM w S pv o) (hb : Below w.heap.size w w') : PtrM w' S pv o := by
 cases o with
 | none => exact h
 | some t => obtain ⟨p, h1, h2⟩ := h; exact ⟨p, h1, h2.blw hb⟩
theorem empty_iff (k v : ByteArray) (a : Int) (l : List Br) : emptyBr (.mk k v a l) = true ↔ k = ⟨#[]⟩ ∧ v = ⟨#[]⟩ ∧ a = 0 ∧ l.length = 0 := by
 unfold emptyBr
 simp only [Br.key, Br.val, Br.at_, Br.kids, Bool.and_eq_true]
 constructor
 ·rintro ⟨h1, h2, h3, h4⟩; exact ⟨empty_size (of_decide_eq_true h1), empty_size (of_decide_eq_true h2), of_decide_eq_true h3, of_decide_eq_true h4⟩
 ·rintro ⟨rfl, rfl, h3, h4⟩; exact ⟨rfl, rfl, decide_eq_true h3, decide_eq_true h4⟩
end Go.Proofs.YtnhhnjmjodmacaaGreatDoor.Sha
namespace Go.Proofs.YtnhhnjmjodmacaaGreatDoor.Sha
set_option maxRecDepth 100000
set_option maxHeartbeats 8000000
open Go.ChangeShapes Go.WideShapes Go.ChangeAt Go.RowKit
set_option linter.unusedVariables false
def Tr.toBr : Tr → Br
 | .leaf k v => .mk k v 256 []
 | .fork a _ l r => .mk ⟨#[]⟩ ⟨#[]⟩ a [l.toBr, r.toBr]
def TrOK : Tr → Prop
 | .leaf k v => okK k = true ∧ v.size ≤ 60
 | .fork a h l r => a < 256 ∧ h.size = 32 ∧ TrOK l ∧ TrOK r
def brOf : Option Tr → Br
 | none => .mk ⟨#[]⟩ ⟨#[]⟩ 0 []
 | some t => t.toBr
def OkO : Option Tr → Prop
 | none => True
 | some t => TrOK t
theorem not_empty {t : Tr} (h : TrOK t) : emptyBr t.toBr = false := by
 cases t with
 | leaf k v =>
  cases he : emptyBr (Tr.leaf k v).toBr
  ·rfl
  ·have := (empty_iff k v 256 []).1 he
   omega
 | fork a hh l r =>
  cases he : emptyBr (Tr.fork a hh l r).toBr
  ·rfl
  ·have := ((empty_iff ⟨#[]⟩ ⟨#[]⟩ a [l.toBr, r.toBr]).1 he).2.2.2
   simp at this
end Go.Proofs.YtnhhnjmjodmacaaGreatDoor.Sha
namespace Go.Proofs.YtnhhnjmjodmacaaGreatDoor.Sha
set_option maxRecDepth 100000
set_option maxHeartbeats 8000000
open Go.ChangeShapes Go.WideShapes Go.ChangeAt Go.RowKit
set_option linter.unusedVariables false
set_option linter.unusedSimpArgs false
theorem l07Leaf_any (k v : ByteArray) (a : Int) (sa : Option Addr) (n cap : Nat) (w : World) (hn : n ≤ maxLen) :
  Calls Tryz.prog 103 #[.agg #[.string k, .string v, .int .i64 a, .slice sa n cap]] w fun e w' => e = .returned (.bool (decide (n = 0))) ∧ Below w.heap.size w w' := by
 have B0 := Hd (bal w (.cells #[.string k, .string v, .int .i64 a, .slice sa n cap] 35))
 unfold maxLen at hn
 by_cases h : n = 0
 ·have H := Hd (show decide (n = 0) = true from decide_eq_true h)
  have hb : ((n : Int) == 0) = true := by simpa using h
  clear h
  go_enter Tryz.func103, Tryz.ntmps103
  go_wp2_with fail
  go_ret
  exact ⟨ret_bool (uh H).symm, uh B0⟩
 ·have H := Hd (show decide (n = 0) = false from decide_eq_false h)
  have hb : ((n : Int) == 0) = false := by rw [beq_eq_false_iff_ne]; omega
  clear h
  go_enter Tryz.func103, Tryz.ntmps103
  go_wp2_with fail
  go_ret
  exact ⟨ret_bool (uh H).symm, uh B0⟩
theorem l07Empty_any (k v : ByteArray) (a : Int) (l : List Br) (sa : Option Addr) (cap : Nat) (w : World) (hn : l.length ≤ maxLen) :
  Calls Tryz.prog 84 #[.agg #[.string k, .string v, .int .i64 a, .slice sa l.length cap]] w fun e w' => e = .returned (.bool (emptyBr (.mk k v a l))) ∧ Below w.heap.size w w' := by
 have B0 := Hd (bal w (.cells #[.string k, .string v, .int .i64 a, .slice sa l.length cap] 35))
 unfold maxLen at hn
 have HE := Hd (empty_iff k v a l)
 generalize emptyBr (.mk k v a l) = eb at *
 have HF : Hid (¬ (k = ⟨#[]⟩ ∧ v = ⟨#[]⟩ ∧ a = 0 ∧ l.length = 0) → eb = false) := Hd (fun h => by cases eb; rfl; exact absurd ((uh HE).1 rfl) h)
 by_cases h1 : k = ⟨#[]⟩
 case neg =>
  have H := Hd (uh HF (fun h => h1 h.1))
  have hkb := ne_empty h1
  clear h1
  go_enter Tryz.func84, Tryz.ntmps84
  go_wp2_with fail
  go_ret
  exact ⟨ret_bool (uh H).symm, uh B0⟩
 have hkb : k.toList.isEmpty = true := emptyB_iff.2 (by rw [h1]; rfl)
 by_cases h2 : v = ⟨#[]⟩
 case neg =>
  have H := Hd (uh HF (fun h => h2 h.2.1))
  have hvb := ne_empty h2
  clear h1 h2
  go_enter Tryz.func84, Tryz.ntmps84
  go_wp2_with fail
  go_ret
  exact ⟨ret_bool (uh H).symm, uh B0⟩
 have hvb : v.toList.isEmpty = true := emptyB_iff.2 (by rw [h2]; rfl)
 by_cases h3 : a = 0
 case neg =>
  have H := Hd (uh HF (fun h => h3 h.2.2.1))
  have hab : (a == 0) = false := by simpa using h3
  clear h1 h2 h3
  go_enter Tryz.func84, Tryz.ntmps84
  go_wp2_with fail
  go_ret
  exact ⟨ret_bool (uh H).symm, uh B0⟩
 have hab : (a == 0) = true := by simpa using h3
 by_cases h4 : l.length = 0
 ·have H := Hd ((uh HE).2 ⟨h1, h2, h3, h4⟩)
  have hlb : ((l.length : Int) == 0) = true := by simpa using h4
  clear h1 h2 h3 h4
  go_enter Tryz.func84, Tryz.ntmps84
  go_wp2_with fail
  go_ret
  exact ⟨ret_bool (uh H).symm, uh B0⟩
 ·have H := Hd (uh HF (fun h => h4 h.2.2.2))
  have hlb : ((l.length : Int) == 0) = false := by rw [beq_eq_false_iff_ne]; omega
  clear h1 h2 h3 h4
  go_enter Tryz.func84, Tryz.ntmps84
  go_wp2_with fail
  go_ret
  exact ⟨ret_bool (uh H).symm, uh B0⟩
theorem list_ne {a b : ByteArray} (h : a ≠ b) : (a.toList == b.toList) = false := by
 rw [beq_eq_false_iff_ne]
 intro e
 rw [ByteArray.toList_eq, ByteArray.toList_eq] at e
 exact h (ByteArray.ext (Array.toList_inj.1 e))
theorem list_eq {a b : ByteArray} (h : a = b) : (a.toList == b.toList) = true := by rw [h]; simp
def Rise : Nat → Tr → Prop
 | n, .leaf _ _ => n ≤ 256
 | n, .fork a _ l r => n ≤ a ∧ a < 256 ∧ Rise (a + 1) l ∧ Rise (a + 1) r
def Tr.at_ : Tr → Nat
 | .leaf _ _ => 256
 | .fork a _ _ _ => a
theorem Rise.le {n : Nat} {t : Tr} (h : Rise n t) : n ≤ t.at_ := by
 cases t with
 | leaf k v => exact h
 | fork a hh l r => exact h.1
theorem Rise.le256 {n : Nat} {t : Tr} (h : Rise n t) : t.at_ ≤ 256 := by
 cases t with
 | leaf k v => exact Nat.le_refl _
 | fork a hh l r => exact Nat.le_of_lt h.2.1
def RiseO : Option Tr → Prop
 | none => True
 | some t => Rise 0 t
def leadL (h : ByteArray) : Tr → ByteArray × ByteArray
 | .leaf k v => (k, v)
 | .fork a _ l r => if bitN h a = 0 then leadL h l else leadL h r
theorem lead_ok (h : ByteArray) : ∀ t, TrOK t → okK (leadL h t).1 = true ∧ (leadL h t).2.size ≤ 60
 | .leaf k v, ho => ho
 | .fork a hh l r, ho => by
  unfold leadL
  split
  ·exact lead_ok h l ho.2.2.1
  ·exact lead_ok h r ho.2.2.2
def atCell (v : Value) (w : World) : Nat := match v with
 | .pointer (some ad) => (match w.cell? ⟨ad.block, 3, none⟩ with
  | some (.int _ a) => a.toNat
  | _ => 0)
 | _ => 0
theorem atCell_is {p : Nat} {w : World} {a : Nat} (h : w.cell? ⟨p, 3, none⟩ = some (.int .i64 a)) : atCell (.pointer (some ⟨p, 0, none⟩)) w = a := by
 unfold atCell
 dsimp only
 rw [h]
 simp
theorem Nd.atC {w : World} {S : Nat → Prop} {p : Nat} {t : Tr} (h : Nd w S p t) : w.cell? ⟨p, 3, none⟩ = some (.int .i64 t.at_) := by
 cases h with
 | leaf S p k v h0 h1 => exact h1.cell 3 rfl
 | fork S Sl Sr p a h l r pl pr h0 h1 h2 h3 h4 => exact h4.cell 3 rfl
theorem lead_any (h : ByteArray) (hh : h.size = 32) (w : World) (S : Nat → Prop) (p : Nat) (t : Tr) (hn : Nd w S p t) (hr : Rise 0 t) :
  Calls Tryz.prog 141 #[.pointer (some ⟨p, 0, none⟩), .string h] w fun e w' => ∃ q, e = .returned (.pointer (some ⟨q, 0, none⟩)) ∧ Blk w' q (lfC (leadL h t).1 (leadL h t).2) ∧ ∃ n, w' = w.drewN n := by
 have HN := Hd hn
 have HR := Hd hr
 clear hn hr
 go_enter Tryz.func141, Tryz.ntmps141
 go_wp2_with fail
 go_loopw [0] (fun nv wr => ∃ (p' m : Nat) (t' : Tr) (S' : Nat → Prop), nv = .pointer (some ⟨p', 0, none⟩) ∧ Nd wr S' p' t' ∧ Rise m t' ∧ leadL h t' = leadL h t ∧ ∃ n, wr = w.drewN n) (fun nv wr => 256 - atCell nv wr)
 case atStart => exact ⟨p, 0, t, S, rfl, uh HN, uh HR, rfl, 0, rfl⟩
 case round =>
  clear HN HR
  obtain ⟨p', m, t', S', rfl, hn, hr, hl, n, hw⟩ := hrel
  have HW := Hd hw
  have HL := Hd hl
  have HA := Hd (atCell_is hn.atC)
  clear hw hl
  cases hn with
  | leaf S' p' k v h0 h1 =>
   have x3 := h1.cell 3 rfl
   have X := Hd h1
   clear h1 hr HA
   go_wp2_with fail
   go_ret
   refine ⟨p', rfl, ?_, n, uh HW⟩
   rw [← uh HL]
   exact uh X
  | fork S' Sl Sr p' a hv l r pl pr h0 h1 h2 h3 h4 h5 h6 =>
   obtain ⟨r0, r1, r2, r3⟩ := hr
   have x3 := h4.cell 3 rfl
   have x4 := h4.cell 4 rfl
   have x5 := h4.cell 5 rfl
   have HB := Hd (fun wx => hashBit_any h a wx hh r1)
   have ha : (a : Int) < 256 := by omega
   have HE : Hid (leadL h (.fork a hv l r) = if bitN h a = 0 then leadL h l else leadL h r) := rfl
   have HN5 := Hd h5
   have HN6 := Hd h6
   clear h1 h2 h3 h4 h5 h6 h0
   rcases bitN_01 h a with hb | hb
   ·rw [hb] at HB HE
    rw [if_pos rfl] at HE
    go_wp2_with fail
    go_quiet (first | (go_at_call 114; exact Calls.quiet_of_same (uh HB _)))
    have N2 := Hd ((uh HN5).blw (below_drewN (Below.refl _ wr) nq))
    have HW2 : Hid (∃ n', wr.drewN nq = w.drewN n') := Hd ⟨n + nq, by rw [uh HW, World.drewN_drewN]⟩
    generalize wr.drewN nq = w2 at *
    go_wp2_with fail
    have hat := atCell_is (uh N2).atC
    have hle := r2.le
    have hle2 := r2.le256
    have hA := uh HA
    refine ⟨⟨pl, a + 1, l, Sl, rfl, uh N2, r2, ?_, uh HW2⟩, ?_⟩
    ·rw [← uh HL, uh HE]
    ·rw [hat, hA]; show 256 - l.at_ < 256 - a; omega
   ·rw [hb] at HB HE
    rw [if_neg (by omega)] at HE
    go_wp2_with fail
    go_quiet (first | (go_at_call 114; exact Calls.quiet_of_same (uh HB _)))
    have N2 := Hd ((uh HN6).blw (below_drewN (Below.refl _ wr) nq))
    have HW2 : Hid (∃ n', wr.drewN nq = w.drewN n') := Hd ⟨n + nq, by rw [uh HW, World.drewN_drewN]⟩
    generalize wr.drewN nq = w2 at *
    go_wp2_with fail
    have hat := atCell_is (uh N2).atC
    have hle := r3.le
    have hle2 := r3.le256
    have hA := uh HA
    refine ⟨⟨pr, a + 1, r, Sr, rfl, uh N2, r3, ?_, uh HW2⟩, ?_⟩
    ·rw [← uh HL, uh HE]
    ·rw [hat, hA]; show 256 - r.at_ < 256 - a; omega
def FindR (o : Option Tr) (key : ByteArray) (w : World) (e : Ending) (w' : World) : Prop := ∃ qv, e = .returned (.pointer qv) ∧ Below w.heap.size w w' ∧
 ((qv = none ∧ ∀ t, o = some t → (leadL (kh key) t).1 ≠ key) ∨ ∃ t q, o = some t ∧ (leadL (kh key) t).1 = key ∧ qv = some ⟨q, 0, none⟩ ∧ Blk w' q (lfC key (leadL (kh key) t).2))
theorem find_any (key : ByteArray) (hk : key.size ≤ 24) (w : World) (S : Nat → Prop) (pv : Option Addr) (o : Option Tr) (hp : PtrM w S pv o) (hr : RiseO o) (ht : Tab w) :
  Calls Tryz.prog 131 #[.pointer pv, .string key] w fun e w' => FindR o key w e w' := by
 obtain ⟨cap, w1, hcv, hB, hb1⟩ := str_bytesB key w (by unfold maxLen; omega)
 have HH := Hd (implHash_any _ _ w1 hB (ht.below hb1).2 (ht.below hb1).1)
 have HV : Hid (kh key = hashV (bytesI key)) := rfl
 have hks := kh_size (k := key) (by omega)
 have B1 := Hd hb1
 have HPM := Hd (hp.blw hb1)
 clear hB ht hb1 hp
 cases o with
 | none =>
  obtain rfl : pv = none := uh HPM
  go_enter Tryz.func131, Tryz.ntmps131
  go_wp2_with fail
  refine (uh HH).mono ?_
  rintro e w2 ⟨rfl, hb2⟩
  have B2 := hbt B1 hb2
  clear hb2
  rw [← uh HV]
  have HLD : Hid (Calls Tryz.prog 141 #[.pointer none, .string (kh key)] w2 fun e w' => e = .returned (.pointer none) ∧ w' = w2) := Hd (by
   clear HH hcv
   generalize kh key = h at *
   go_enter Tryz.func141, Tryz.ntmps141
   go_wp2_with fail
   go_loopw [0] (fun nv wr => nv = .pointer none ∧ wr = w2) (fun _ _ => 0)
   case atStart => exact ⟨rfl, rfl⟩
   case round =>
    obtain ⟨rfl, hwr⟩ := hrel
    subst wr
    go_wp2_with fail
    go_ret
    exact ⟨rfl, rfl⟩)
  go_wp2_with fail
  refine (uh HLD).mono ?_
  rintro e w9 ⟨rfl, hw9⟩
  subst w9
  go_wp2_with fail
  go_ret
  exact ⟨none, rfl, uh B2, .inl ⟨rfl, fun t ht => by cases ht⟩⟩
 | some t =>
  obtain ⟨p, rfl, hn⟩ := uh HPM
  have HN := Hd hn
  have HR := Hd hr
  clear hn hr HPM
  go_enter Tryz.func131, Tryz.ntmps131
  go_wp2_with fail
  refine (uh HH).mono ?_
  rintro e w2 ⟨rfl, hb2⟩
  have B2 := hbt B1 hb2
  have N2 := Hd ((uh HN).blw hb2)
  clear hb2 HN HH hcv
  rw [← uh HV]
  have HLD := Hd (lead_any (kh key) hks w2 S p t (uh N2) (uh HR))
  have HF : Hid (∀ qv w', Below w.heap.size w w' → ((qv = none ∧ (leadL (kh key) t).1 ≠ key) ∨ ∃ q, (leadL (kh key) t).1 = key ∧ qv = some ⟨q, 0, none⟩ ∧ Blk w' q (lfC key (leadL (kh key) t).2)) → FindR (some t) key w (.returned (.pointer qv)) w') := Hd (fun qv w' hb h => by
   refine ⟨qv, rfl, hb, ?_⟩
   rcases h with ⟨h1, h2⟩ | ⟨q, h1, h2, h3⟩
   ·exact .inl ⟨h1, fun t' ht => by cases ht; exact h2⟩
   ·exact .inr ⟨t, q, rfl, h1, h2, h3⟩)
  generalize leadL (kh key) t = kv at *
  obtain ⟨k, v⟩ := kv
  dsimp only at HLD HF
  clear HV hks
  generalize kh key = h at *
  go_wp2_with fail
  refine (uh HLD).mono ?_
  rintro e w3 ⟨q, rfl, hq, n, hw3⟩
  have B3 : Hid (Below w.heap.size w w3) := Hd (by rw [hw3]; exact below_drewN (uh B2) n)
  have X3 := Hd hq
  have x0 := hq.cell 0 rfl
  clear hq hw3 HLD
  by_cases hkk : k = key
  ·have hb := list_eq hkk
   have HK := Hd hkk
   clear hkk
   go_wp2_with fail
   go_ret
   refine uh HF _ w3 (uh B3) (.inr ⟨q, uh HK, rfl, ?_⟩)
   have := uh X3
   rw [uh HK] at this
   exact this
  ·have hb := list_ne hkk
   have HK := Hd hkk
   clear hkk
   go_wp2_with fail
   go_ret
   exact uh HF _ w3 (uh B3) (.inl ⟨rfl, uh HK⟩)
def getV (o : Option Tr) (key : ByteArray) : Option ByteArray := match o with
 | none => none
 | some t => if (leadL (kh key) t).1 = key then some (leadL (kh key) t).2 else none
end Go.Proofs.YtnhhnjmjodmacaaGreatDoor.Sha
