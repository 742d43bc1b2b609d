/- Nodes of a map in memory; newLeaf, newFork. -/
import Derived.Test.YtnajpeaieeaflaaDoorBrF
import Derived.Deep.RegionLaw
namespace Go.Proofs.YtnajpeaieeaflaaDoor.Sha
open Go.ChangeShapes Go.WideShapes Go.ChangeAt Go.RowKit
set_option linter.unusedVariables false
set_option linter.unusedSimpArgs false

/-- The cells of a leaf and of a fork. -/
def lfC (k v : ByteArray) : List Value := [.string k, .string v, .string (kh k), .int .i64 256, .pointer none, .pointer none]
def fkC (h : ByteArray) (a : Nat) (p q : Nat) : List Value := [.string ⟨#[]⟩, .string ⟨#[]⟩, .string h, .int .i64 a, .pointer (some ⟨p, 0, none⟩), .pointer (some ⟨q, 0, none⟩)]
/-- The node in block p is this map's; its nodes lie in blocks of S, no two in one. -/
inductive Nd (w : World) : (Nat → Prop) → Nat → Tr → Prop
  | leaf (S : Nat → Prop) (p : Nat) (k v : ByteArray) : S p → Blk w p (lfC k v) → Nd w S p (.leaf k v)
  | fork (S Sl Sr : Nat → Prop) (p a : Nat) (h : ByteArray) (l r : Tr) (pl pr : Nat) : S p → (∀ b, Sl b → S b ∧ b ≠ p) → (∀ b, Sr b → S b ∧ b ≠ p) → (∀ b, Sl b → ¬ Sr b) → Blk w p (fkC h a pl pr) → Nd w Sl pl l → Nd w Sr pr r → Nd w S p (.fork a h l r)
theorem Nd.touch {w w' : World} {S T : Nat → Prop} {p : Nat} {t : Tr} (h : Nd w S p t) (ht : Touch T w w') (hn : ∀ k, S k → ¬ T k) : Nd w' S p t := by
  induction h with
  | leaf S p k v h0 h1 => exact .leaf S p k v h0 (h1.kept ht (hn p h0))
  | fork S Sl Sr p a h l r pl pr h0 h1 h2 h3 h4 _ _ i1 i2 => exact .fork S Sl Sr p a h l r pl pr h0 h1 h2 h3 (h4.kept ht (hn p h0)) (i1 (fun k hk => hn k (h1 k hk).1)) (i2 (fun k hk => hn k (h2 k hk).1))
theorem Nd.blw {w w' : World} {S : Nat → Prop} {p : Nat} {t : Tr} (h : Nd w S p t) (hb : Below w.heap.size w w') : Nd w' S p t := h.touch (T := fun _ => False) (Touch.ofBelow hb) (fun _ _ h => h)
theorem Nd.mono {w : World} {S T : Nat → Prop} {p : Nat} {t : Tr} (h : Nd w S p t) (hst : ∀ k, S k → T k) : Nd w T p t := by
  cases h with
  | leaf S p k v h0 h1 => exact .leaf T p k v (hst p h0) h1
  | fork S Sl Sr p a h l r pl pr h0 h1 h2 h3 h4 h5 h6 => exact .fork T Sl Sr p a h l r pl pr (hst p h0) (fun b hb => ⟨hst b (h1 b hb).1, (h1 b hb).2⟩) (fun b hb => ⟨hst b (h2 b hb).1, (h2 b hb).2⟩) h3 h4 h5 h6
theorem Nd.here {w : World} {S : Nat → Prop} {p : Nat} {t : Tr} (h : Nd w S p t) : S p ∧ p < w.heap.size := by
  cases h with
  | leaf S p k v h0 h1 => exact ⟨h0, h1.1⟩
  | fork S Sl Sr p a h l r pl pr h0 h1 h2 h3 h4 => exact ⟨h0, h4.1⟩
theorem Nd.hashC {w : World} {S : Nat → Prop} {p : Nat} {t : Tr} (h : Nd w S p t) : w.cell? ⟨p, 2, none⟩ = some (.string t.hash) := by
  cases h with
  | leaf S p k v h0 h1 => exact h1.cell 2 rfl
  | fork S Sl Sr p a h l r pl pr h0 h1 h2 h3 h4 => exact h4.cell 2 rfl

set_option maxRecDepth 100000 in
set_option maxHeartbeats 1000000 in
theorem newLeaf_any (k v : ByteArray) (w : World) (hk : k.size ≤ 65536) (ht : Tab w) :
    Calls Tryd.prog 91 #[.string k, .string v] w fun e w' => ∃ p, e = .returned (.pointer (some ⟨p, 0, none⟩)) ∧ w.heap.size ≤ p ∧ Blk w' p (lfC k v) ∧ Below w.heap.size w w' := by
  obtain ⟨cap, w1, hcv, hB, hb1⟩ := str_bytesB k w (by unfold maxLen; omega)
  have HH := hide (implHash_any _ _ w1 hB (ht.below hb1).2 (ht.below hb1).1)
  have HV : Hid (kh k = hashV (bytesI k)) := rfl
  have B1 := hide hb1
  clear hb1 hB ht
  go_enter Tryd.func91, Tryd.ntmps91
  go_wp2_with fail
  refine (unhide HH).mono ?_
  rintro e w3 ⟨rfl, hb3⟩
  have K := hide ((unhide B1).trans (hb3.mono (unhide B1).size))
  clear hb3
  rw [← unhide HV]
  have KN := hide (Blk.new w3 #[.string k, .string v, .string (kh k), .int .i64 256, .pointer none, .pointer none] 50 w3.heap.size rfl)
  have K4 := hide ((unhide K).alloc (unhide K).size (.cells #[.string k, .string v, .string (kh k), .int .i64 256, .pointer none, .pointer none] 50))
  go_wp2_with fail
  go_ret
  exact ⟨w3.heap.size, rfl, (unhide K).size, unhide KN, unhide K4⟩
/-- Where newFork puts its two maps. -/
def kidsV (x y : ByteArray) (a p q : Nat) : Nat × Nat := if bitN x a = 0 then (p, q) else (q, p)
set_option maxRecDepth 100000 in
set_option maxHeartbeats 2000000 in
theorem newFork_any (a : Nat) (p q : Nat) (x y : ByteArray) (w : World) (ha : a < 256) (hx : x.size = 32) (hy : y.size = 32) (hxy : bitN x a ≠ bitN y a)
    (hp : p < w.heap.size) (hq : q < w.heap.size) (cx : w.cell? ⟨p, 2, none⟩ = some (.string x)) (cy : w.cell? ⟨q, 2, none⟩ = some (.string y)) :
    Calls Tryd.prog 79 #[.int .i64 a, .pointer (some ⟨p, 0, none⟩), .pointer (some ⟨q, 0, none⟩)] w fun e w' => ∃ f, e = .returned (.pointer (some ⟨f, 0, none⟩)) ∧ w.heap.size ≤ f ∧ Blk w' f (fkC x a (kidsV x y a p q).1 (kidsV x y a p q).2) ∧ Below w.heap.size w w' := by
  have HX := hide (fun wx => hashBit_any x a wx hx ha)
  have HY := hide (fun wx => hashBit_any y a wx hy ha)
  have X0 := hide (Blk.new w #[.string ⟨#[]⟩, .string ⟨#[]⟩, .string x, .int .i64 a, .pointer none, .pointer none] 50 w.heap.size rfl)
  have B0 := hide ((Below.refl w.heap.size w).alloc (Nat.le_refl _) (.cells #[.string ⟨#[]⟩, .string ⟨#[]⟩, .string x, .int .i64 a, .pointer none, .pointer none] 50))
  have c1 := ((unhide B0).cell (p := ⟨p, 2, none⟩) hp).trans cx
  have c2 := ((unhide B0).cell (p := ⟨q, 2, none⟩) hq).trans cy
  have hpn : p ≠ w.heap.size := by omega
  have hqn : q ≠ w.heap.size := by omega
  have HK : Hid (kidsV x y a p q = if bitN x a = 0 then (p, q) else (q, p)) := rfl
  have hx1 := bitN_01 x a
  have hy1 := bitN_01 y a
  generalize bitN x a = bx at *
  generalize bitN y a = by' at *
  generalize kidsV x y a p q = kk at *
  go_enter Tryd.func79, Tryd.ntmps79
  go_wp2_with fail
  clear cx cy
  generalize w.alloc (.cells #[.string ⟨#[]⟩, .string ⟨#[]⟩, .string x, .int .i64 a, .pointer none, .pointer none] 50) = w1 at *
  generalize hX : w.heap.size = X at *
  have f4 := (unhide X0).fro 4
  have f5 := (unhide X0).fro 5
  have d4 := (unhide X0).cell 4 rfl
  have d5 := (unhide X0).cell 5 rfl
  rcases hx1 with rfl | rfl
  · obtain rfl : by' = 1 := by omega
    have s1 : (w1.setCell ⟨X, 4, none⟩ (.pointer (some ⟨p, 0, none⟩))).drew.cell? ⟨p, 2, none⟩ = some (.string x) := (World.cell?_setCell_other _ _ _ _ (by simp)).trans c1
    go_region_held3 (fun wx => wx.cell? ⟨p, 2, none⟩ = some (.string x)) (first | go_keep | exact s1) ((go_at_call 21; refine (unhide HX _).mono ?_; rintro e w9 ⟨rfl, hw9⟩; subst w9))
    have Y2 : Hid (Blk (w1.setCell ⟨X, 4, none⟩ (.pointer (some ⟨p, 0, none⟩))).drew X ([.string ⟨#[]⟩, .string ⟨#[]⟩, .string x, .int .i64 a, .pointer none, .pointer none].set 4 (.pointer (some ⟨p, 0, none⟩)))) := hide (((unhide X0).set 4 (.pointer (some ⟨p, 0, none⟩)) (by simp)).drewN 1)
    have B2 : Hid (Below X w (w1.setCell ⟨X, 4, none⟩ (.pointer (some ⟨p, 0, none⟩))).drew) := hide (((unhide B0).setCell (p := ⟨X, 4, none⟩) (Nat.le_refl _) (.pointer (some ⟨p, 0, none⟩))).drew)
    have e2 : (w1.setCell ⟨X, 4, none⟩ (.pointer (some ⟨p, 0, none⟩))).drew.cell? ⟨q, 2, none⟩ = some (.string y) := (World.cell?_setCell_other _ _ _ _ (by simp)).trans c2
    generalize (w1.setCell ⟨X, 4, none⟩ (.pointer (some ⟨p, 0, none⟩))).drew = w2 at *
    clear d4 d5 f4 f5 c1 c2 s1
    have f4 := (unhide Y2).fro 4
    have f5 := (unhide Y2).fro 5
    have d4 := (unhide Y2).cell 4 rfl
    have d5 := (unhide Y2).cell 5 rfl
    have s2 : (w2.setCell ⟨X, 5, none⟩ (.pointer (some ⟨q, 0, none⟩))).drew.cell? ⟨q, 2, none⟩ = some (.string y) := (World.cell?_setCell_other _ _ _ _ (by simp)).trans e2
    go_wp2_with fail
    go_region_held3 (fun wx => wx.cell? ⟨q, 2, none⟩ = some (.string y)) (first | go_keep | exact s2) ((go_at_call 21; refine (unhide HY _).mono ?_; rintro e w9 ⟨rfl, hw9⟩; subst w9))
    have Y3 : Hid (Blk (w2.setCell ⟨X, 5, none⟩ (.pointer (some ⟨q, 0, none⟩))).drew X (([.string ⟨#[]⟩, .string ⟨#[]⟩, .string x, .int .i64 a, .pointer none, .pointer none].set 4 (.pointer (some ⟨p, 0, none⟩))).set 5 (.pointer (some ⟨q, 0, none⟩)))) := hide (((unhide Y2).set 5 (.pointer (some ⟨q, 0, none⟩)) (by simp)).drewN 1)
    have B3 : Hid (Below X w (w2.setCell ⟨X, 5, none⟩ (.pointer (some ⟨q, 0, none⟩))).drew) := hide (((unhide B2).setCell (p := ⟨X, 5, none⟩) (Nat.le_refl _) (.pointer (some ⟨q, 0, none⟩))).drew)
    generalize (w2.setCell ⟨X, 5, none⟩ (.pointer (some ⟨q, 0, none⟩))).drew = w3 at *
    clear d4 d5 f4 f5 e2 s2
    go_wp2_with fail
    go_ret
    refine ⟨X, rfl, Nat.le_of_eq hX, ?_, by rw [hX]; exact unhide B3⟩
    rw [unhide HK]
    exact unhide Y3
  · obtain rfl : by' = 0 := by omega
    have s1 : (w1.setCell ⟨X, 5, none⟩ (.pointer (some ⟨p, 0, none⟩))).drew.cell? ⟨p, 2, none⟩ = some (.string x) := (World.cell?_setCell_other _ _ _ _ (by simp)).trans c1
    go_region_held3 (fun wx => wx.cell? ⟨p, 2, none⟩ = some (.string x)) (first | go_keep | exact s1) ((go_at_call 21; refine (unhide HX _).mono ?_; rintro e w9 ⟨rfl, hw9⟩; subst w9))
    have Y2 : Hid (Blk (w1.setCell ⟨X, 5, none⟩ (.pointer (some ⟨p, 0, none⟩))).drew X ([.string ⟨#[]⟩, .string ⟨#[]⟩, .string x, .int .i64 a, .pointer none, .pointer none].set 5 (.pointer (some ⟨p, 0, none⟩)))) := hide (((unhide X0).set 5 (.pointer (some ⟨p, 0, none⟩)) (by simp)).drewN 1)
    have B2 : Hid (Below X w (w1.setCell ⟨X, 5, none⟩ (.pointer (some ⟨p, 0, none⟩))).drew) := hide (((unhide B0).setCell (p := ⟨X, 5, none⟩) (Nat.le_refl _) (.pointer (some ⟨p, 0, none⟩))).drew)
    have e2 : (w1.setCell ⟨X, 5, none⟩ (.pointer (some ⟨p, 0, none⟩))).drew.cell? ⟨q, 2, none⟩ = some (.string y) := (World.cell?_setCell_other _ _ _ _ (by simp)).trans c2
    generalize (w1.setCell ⟨X, 5, none⟩ (.pointer (some ⟨p, 0, none⟩))).drew = w2 at *
    clear d4 d5 f4 f5 c1 c2 s1
    have f4 := (unhide Y2).fro 4
    have f5 := (unhide Y2).fro 5
    have d4 := (unhide Y2).cell 4 rfl
    have d5 := (unhide Y2).cell 5 rfl
    have s2 : (w2.setCell ⟨X, 4, none⟩ (.pointer (some ⟨q, 0, none⟩))).drew.cell? ⟨q, 2, none⟩ = some (.string y) := (World.cell?_setCell_other _ _ _ _ (by simp)).trans e2
    go_wp2_with fail
    go_region_held3 (fun wx => wx.cell? ⟨q, 2, none⟩ = some (.string y)) (first | go_keep | exact s2) ((go_at_call 21; refine (unhide HY _).mono ?_; rintro e w9 ⟨rfl, hw9⟩; subst w9))
    have Y3 : Hid (Blk (w2.setCell ⟨X, 4, none⟩ (.pointer (some ⟨q, 0, none⟩))).drew X (([.string ⟨#[]⟩, .string ⟨#[]⟩, .string x, .int .i64 a, .pointer none, .pointer none].set 5 (.pointer (some ⟨p, 0, none⟩))).set 4 (.pointer (some ⟨q, 0, none⟩)))) := hide (((unhide Y2).set 4 (.pointer (some ⟨q, 0, none⟩)) (by simp)).drewN 1)
    have B3 : Hid (Below X w (w2.setCell ⟨X, 4, none⟩ (.pointer (some ⟨q, 0, none⟩))).drew) := hide (((unhide B2).setCell (p := ⟨X, 4, none⟩) (Nat.le_refl _) (.pointer (some ⟨q, 0, none⟩))).drew)
    generalize (w2.setCell ⟨X, 4, none⟩ (.pointer (some ⟨q, 0, none⟩))).drew = w3 at *
    clear d4 d5 f4 f5 e2 s2
    go_wp2_with fail
    go_ret
    refine ⟨X, rfl, Nat.le_of_eq hX, ?_, by rw [hX]; exact unhide B3⟩
    rw [unhide HK]
    exact unhide Y3
end Go.Proofs.YtnajpeaieeaflaaDoor.Sha
