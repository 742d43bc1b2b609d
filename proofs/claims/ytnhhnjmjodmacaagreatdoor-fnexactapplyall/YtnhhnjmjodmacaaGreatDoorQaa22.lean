/- What the proof of the claim needs (joined by program): BrIs. -/
import Derived.Test.YtnhhnjmjodmacaaGreatDoorQaa21
import Derived.Deep.RegionLaw
namespace Go.Proofs.YtnhhnjmjodmacaaGreatDoor.Sha
set_option maxRecDepth 100000
set_option maxHeartbeats 8000000
open Go.ChangeShapes Go.WideShapes Go.ChangeAt Go.RowKit
set_option linter.unusedVariables false
set_option linter.unusedSimpArgs false
theorem l07Insert_leaf (k v h k' v' : ByteArray) (B0 : Nat → Prop) (kv : Value) (w : World) (hB : Brs B0 w kv []) :
  Calls Tryz.prog 110 #[.agg #[.string k', .string v', .int .i64 256, kv], .string h, .int .i64 256, .agg #[.string k, .string v, .int .i64 256, .slice none 0 0]] w fun e w' => DrR B0 (Tr.leaf k v).toBr w e w' := by
 obtain ⟨sa, cap, rfl, hcap, hcm⟩ := hB.shape
 have HLF := Hd (fun wx => l07Leaf_any k' v' 256 sa 0 cap wx (by unfold maxLen; omega))
 rw [show decide ((0 : Nat) = 0) = true from rfl] at HLF
 dsimp only [List.length_nil] at hB ⊢
 have HGR : Hid (∀ w', Below w.heap.size w w' → DrR B0 (Tr.leaf k v).toBr w (.returned (.agg #[.string k, .string v, .int .i64 256, .slice none 0 0])) w') := Hd (fun w' hb => ⟨none, 0, 0, rfl, .nil _ _ (by unfold maxLen; omega), hb⟩)
 have B1 := Hd (((bal w (.cells #[.string k', .string v', .int .i64 256, .slice sa 0 cap] 35)).alloc (by simp) (.cells #[.string k, .string v, .int .i64 256, .slice none 0 0] 35)).alloc (by simp; omega) (.cells #[.string ⟨#[]⟩, .string ⟨#[]⟩, .int .i64 0, .slice none 0 0] 35))
 have L1 := Hd ((Blk.new (w.alloc (.cells #[.string k', .string v', .int .i64 256, .slice sa 0 cap] 35)) #[.string k, .string v, .int .i64 256, .slice none 0 0] 35 (w.heap.size + 1) (by simp)).alloc (.cells #[.string ⟨#[]⟩, .string ⟨#[]⟩, .int .i64 0, .slice none 0 0] 35))
 have R1 := Hd (Blk.new ((w.alloc (.cells #[.string k', .string v', .int .i64 256, .slice sa 0 cap] 35)).alloc (.cells #[.string k, .string v, .int .i64 256, .slice none 0 0] 35)) #[.string ⟨#[]⟩, .string ⟨#[]⟩, .int .i64 0, .slice none 0 0] 35 (w.heap.size + 1 + 1) (by simp))
 have HRS := Hd (show w.heap.size < w.heap.size + 1 + 1 by omega)
 clear hB
 go_enter Tryz.func110, Tryz.ntmps110
 go_wp2_with fail
 generalize ((w.alloc (.cells #[.string k', .string v', .int .i64 256, .slice sa 0 cap] 35)).alloc (.cells #[.string k, .string v, .int .i64 256, .slice none 0 0] 35)).alloc (.cells #[.string ⟨#[]⟩, .string ⟨#[]⟩, .int .i64 0, .slice none 0 0] 35) = w1 at *
 generalize w.heap.size + 1 + 1 = R at *
 generalize w.heap.size + 1 = L at *
 refine (uh HLF w1).mono ?_
 rintro e w2 ⟨rfl, hb2⟩
 have B2 := hbt B1 hb2
 have R2 := Hd ((uh R1).below hb2)
 have L2 := (uh L1).below hb2
 have l0 := L2.cell 0 rfl
 have l1 := L2.cell 1 rfl
 have l2 := L2.cell 2 rfl
 have l3 := L2.cell 3 rfl
 clear hb2 B1 R1 L1 L2
 have r0 := (uh R2).cell 0 rfl
 have r1 := (uh R2).cell 1 rfl
 have r2 := (uh R2).cell 2 rfl
 have r3 := (uh R2).cell 3 rfl
 have f0 := (uh R2).fro 0
 have f1 := (uh R2).fro 1
 have f2 := (uh R2).fro 2
 have f3 := (uh R2).fro 3
 have hZ := set4_blk (uh R2) (.string k) (.string v) (.int .i64 256) (.slice none 0 0)
 have z0 := hZ.cell 0 rfl
 have z1 := hZ.cell 1 rfl
 have z2 := hZ.cell 2 rfl
 have z3 := hZ.cell 3 rfl
 have HT4 := Hd (set4_touch w2 R (.string k) (.string v) (.int .i64 256) (.slice none 0 0))
 have HBF := Hd ((uh B2).trans ((uh HT4).below (uh B2).size (fun q hq e => by have := (uh HRS); omega)))
 unfold set4 at z0 z1 z2 z3
 clear hZ
 go_wp2_with fail
 refine bodyPost_ret (v := .agg #[.string k, .string v, .int .i64 256, .slice none 0 0]) (by simp [results, Tryz.results110, go_sem, z0, z1, z2, z3]) rfl ?_
 exact uh HGR _ (uh HBF)
def replT (kb a : Nat) (hv : ByteArray) (l r t' : Tr) : Tr := if kb = 0 then .fork a hv t' r else .fork a hv l t'
theorem l07Insert_any (k v h : ByteArray) (hh : h.size = 32) (at_ : Nat) (hat0 : at_ ≤ 256) (hkv : TrOK (.leaf k v)) : ∀ (t : Tr), TrOK t → ∀ (m : Nat), Rise m t → Sep t → at_ = fd (kh (leadL h t).1) h → ∀ (B0 : Nat → Prop) (kv : Value) (w : World), (∀ x, B0 x → x < w.heap.size) → Brs B0 w kv t.toBr.kids →
  Calls Tryz.prog 110 #[.agg #[.string t.toBr.key, .string t.toBr.val, .int .i64 t.toBr.at_, kv], .string h, .int .i64 at_, .agg #[.string k, .string v, .int .i64 256, .slice none 0 0]] w fun e w' => DrR B0 (putT h at_ k v t).toBr w e w' := by
 intro t
 induction t with
 | leaf k' v' =>
  intro hok m hr hs hfd B0 kv w hB0 hB
  by_cases h256 : at_ = 256
  ·subst h256
   have := l07Insert_leaf k v h k' v' B0 kv w hB
   unfold putT
   rw [if_pos rfl]
   exact this
  ·have := l07Insert_build k v h hh at_ (by omega) hkv (.leaf k' v') hok (.inl rfl) B0 kv w hB0 hB
   unfold putT
   rw [if_neg h256]
   exact this
 | fork a hv l r ihl ihr =>
  intro hok m hr hs hfd B0 kv w hB0 hB
  have hne : at_ ≠ a := fun e => by
   have h1 := ((fd_iff (kh (leadL h (.fork a hv l r)).1) h at_ (by have := hr.2.1; omega)).1 hfd.symm).2
   rw [e] at h1
   exact h1 (lead_bit h hr hs)
  by_cases hlt : a < at_
  ·obtain ⟨ha, ho9, okl, okr⟩ := hok
   obtain ⟨r0, r1, r2, r3⟩ := hr
   obtain ⟨q1, q2, q3, sl, sr⟩ := hs
   obtain ⟨sa, cap, rfl, hcap, hcm⟩ := hB.shape
   have hkm := hcm
   obtain ⟨kb, tn, hkb, hb2, HDT, okn, hgn, IH⟩ : ∃ (kb : Nat) (tn : Tr), bitN h a = kb ∧ kb < 2 ∧ Hid (putT h at_ k v (.fork a hv l r) = replT kb a hv l r (putT h at_ k v tn)) ∧ TrOK tn ∧ ([l.toBr, r.toBr] : List Br).getD kb default = tn.toBr ∧
     Hid (∀ (B0 : Nat → Prop) (kv : Value) (w : World), (∀ x, B0 x → x < w.heap.size) → Brs B0 w kv tn.toBr.kids → Calls Tryz.prog 110 #[.agg #[.string tn.toBr.key, .string tn.toBr.val, .int .i64 tn.toBr.at_, kv], .string h, .int .i64 at_, .agg #[.string k, .string v, .int .i64 256, .slice none 0 0]] w fun e w' => DrR B0 (putT h at_ k v tn).toBr w e w') := by
    rcases bitN_01 h a with hb | hb
    ·exact ⟨0, l, hb, by omega, Hd (by (conv => lhs; unfold putT; rw [if_pos hlt, if_pos hb]); rfl), okl, rfl, Hd (ihl okl _ r2 sl (by rw [hfd]; conv => lhs; unfold leadL; rw [if_pos hb]))⟩
    ·exact ⟨1, r, hb, by omega, Hd (by (conv => lhs; unfold putT; rw [if_pos hlt, if_neg (by omega)]); rfl), okr, rfl, Hd (ihr okr _ r3 sr (by rw [hfd]; conv => lhs; unfold leadL; rw [if_neg (by omega)]))⟩
   clear ihl ihr hfd hne q1 q2 q3 sl sr r0 r2 r3 ho9
   rw [uh HDT]
   have HOT : Hid (TrOK (putT h at_ k v tn)) := Hd (putT_ok h at_ k v hat0 hh hkv.1 hkv.2 tn okn)
   generalize putT h at_ k v tn = t' at *
   have HGR : Hid (∀ sa n cap w', Brs (fun x => B0 x ∨ w.heap.size ≤ x) w' (.slice sa n cap) (replT kb a hv l r t').toBr.kids → Below w.heap.size w w' → DrR B0 (replT kb a hv l r t').toBr w (.returned (.agg #[.string (replT kb a hv l r t').toBr.key, .string (replT kb a hv l r t').toBr.val, .int .i64 (replT kb a hv l r t').toBr.at_, .slice sa n cap])) w') := Hd (fun sa n cap w' h1 hb => ⟨sa, n, cap, rfl, h1, hb⟩)
   dsimp only [Tr.toBr, Br.key, Br.val, Br.at_, Br.kids] at hB hcap ⊢
   rw [show ([l.toBr, r.toBr] : List Br).length = 2 from rfl] at hB hcap ⊢
   obtain ⟨bb, off, kvf, rfl, _, hat⟩ := hB.at (by simp)
   have hbb := hat.lt
   obtain ⟨d0, d1, d2, d3⟩ := hat.cells kb (by simpa using hb2)
   have KN := Hd (hat.kids kb (by simpa using hb2))
   rw [hgn] at d0 d1 d2 KN
   obtain ⟨kan, kcn, hkvn, _, hknm⟩ := (uh KN).shape
   rw [hkvn] at KN d3
   have HLF := Hd (fun wx => l07Leaf_any ⟨#[]⟩ ⟨#[]⟩ a (some ⟨bb, off, none⟩) 2 cap wx (by unfold maxLen at hkm ⊢; omega))
   rw [show decide ((2 : Nat) = 0) = false from rfl] at HLF
   have HBT := Hd (fun wx => l07Bit_any h a wx hh r1)
   rw [hkb] at HBT
   have B1 := Hd (((bal w (.cells #[.string ⟨#[]⟩, .string ⟨#[]⟩, .int .i64 a, .slice (some ⟨bb, off, none⟩) 2 cap] 35)).alloc (by simp) (.cells #[.string k, .string v, .int .i64 256, .slice none 0 0] 35)).alloc (by simp; omega) (.cells #[.string ⟨#[]⟩, .string ⟨#[]⟩, .int .i64 0, .slice none 0 0] 35))
   have X1 := Hd (((Blk.new w #[.string ⟨#[]⟩, .string ⟨#[]⟩, .int .i64 a, .slice (some ⟨bb, off, none⟩) 2 cap] 35 w.heap.size rfl).alloc (.cells #[.string k, .string v, .int .i64 256, .slice none 0 0] 35)).alloc (.cells #[.string ⟨#[]⟩, .string ⟨#[]⟩, .int .i64 0, .slice none 0 0] 35))
   have L1 := Hd ((Blk.new (w.alloc (.cells #[.string ⟨#[]⟩, .string ⟨#[]⟩, .int .i64 a, .slice (some ⟨bb, off, none⟩) 2 cap] 35)) #[.string k, .string v, .int .i64 256, .slice none 0 0] 35 (w.heap.size + 1) (by simp)).alloc (.cells #[.string ⟨#[]⟩, .string ⟨#[]⟩, .int .i64 0, .slice none 0 0] 35))
   have R1 := Hd (Blk.new ((w.alloc (.cells #[.string ⟨#[]⟩, .string ⟨#[]⟩, .int .i64 a, .slice (some ⟨bb, off, none⟩) 2 cap] 35)).alloc (.cells #[.string k, .string v, .int .i64 256, .slice none 0 0] 35)) #[.string ⟨#[]⟩, .string ⟨#[]⟩, .int .i64 0, .slice none 0 0] 35 (w.heap.size + 1 + 1) (by simp))
   have HRS := Hd (show w.heap.size < w.heap.size + 1 + 1 ∧ w.heap.size < w.heap.size + 1 by omega)
   have HAT := Hd hat
   have hgt : ¬ (at_ : Int) < (a : Int) := by omega
   clear hB hat hkvn hkb hgn HDT
   go_enter Tryz.func110, Tryz.ntmps110
   go_upto_region 1 with fail
   generalize ((w.alloc (.cells #[.string ⟨#[]⟩, .string ⟨#[]⟩, .int .i64 a, .slice (some ⟨bb, off, none⟩) 2 cap] 35)).alloc (.cells #[.string k, .string v, .int .i64 256, .slice none 0 0] 35)).alloc (.cells #[.string ⟨#[]⟩, .string ⟨#[]⟩, .int .i64 0, .slice none 0 0] 35) = w1 at *
   generalize w.heap.size + 1 + 1 = R at *
   generalize w.heap.size + 1 = L at *
   have x0 := (uh X1).cell 0 rfl
   have x1 := (uh X1).cell 1 rfl
   have x2 := (uh X1).cell 2 rfl
   have x3 := (uh X1).cell 3 rfl
   go_cut [16] (fun s wx => s = .bool false ∧ Below w1.heap.size w1 wx)
   case first =>
    by_cases h256 : at_ = 256
    ·subst h256
     go_wp2_with fail
     refine (uh HLF w1).mono ?_
     rintro e w2 ⟨rfl, hb2'⟩
     have HB2 := Hd hb2'
     clear hb2'
     go_wp2_with fail
     go_meet
     exact ⟨rfl, uh HB2⟩
    ·have h2 : ((at_ : Int) == 256) = false := by rw [beq_eq_false_iff_ne]; omega
     go_wp2_with fail
     go_meet
     exact ⟨rfl, Below.refl _ _⟩
   case rest =>
    obtain ⟨rfl, hbc⟩ := hcut
    obtain ⟨w2, hw2⟩ : ∃ w2, w2 = wc := ⟨_, rfl⟩
    subst hw2
    have B2 := hbt B1 hbc
    have X2 := Hd ((uh X1).below hbc)
    have L2 := Hd ((uh L1).below hbc)
    have R2 := Hd ((uh R1).below hbc)
    clear x0 x1 x2 x3 hbc B1 X1 L1 R1
    have x0 := (uh X2).cell 0 rfl
    have x1 := (uh X2).cell 1 rfl
    have x2 := (uh X2).cell 2 rfl
    have x3 := (uh X2).cell 3 rfl
    go_wp2_with fail
    refine (uh HLF w2).mono ?_
    rintro e w3 ⟨rfl, hb3⟩
    have B3 := hbt B2 hb3
    have X3 := Hd ((uh X2).below hb3)
    have L3 := Hd ((uh L2).below hb3)
    have R3 := Hd ((uh R2).below hb3)
    clear hb3 B2 X2 L2 R2 HLF x0 x1 x2 x3
    have x2 := (uh X3).cell 2 rfl
    go_wp2_with fail
    refine (uh HBT w3).mono ?_
    rintro e w9 ⟨rfl, hw9⟩
    subst w9
    have m0 : (0 : Int) ≤ (kb : Int) := by omega
    have m1 : (kb : Int) < 2 := by omega
    obtain ⟨ka0, kc0, hk0, _, _⟩ := ((uh HAT).kids 0 (by simp)).shape
    obtain ⟨ka1, kc1, hk1, _, _⟩ := ((uh HAT).kids 1 (by simp)).shape
    have BB := bal w3 (.cells #[] 35)
    have B5 := hbt B3 BB
    have X5 := Hd ((uh X3).below BB)
    have L5 := Hd ((uh L3).below BB)
    have R5 := Hd ((uh R3).below BB)
    have O5 : Hid ((w3.alloc (.cells #[] 35)).ownsRow w3.heap.size 35 4 (.slice (some ⟨w3.heap.size, 0, none⟩) 0 0) 0 []) := Hd (World.ownsRow_made w3 #[] 0 (Nat.le_refl _) (by unfold maxLen; omega) rfl)
    have HRW := Hd (row2_rw (cap := cap) (uh HAT) (uh B5))
    have H1C : Hid (∀ u ∈ row2 l.toBr r.toBr (kvf 0) (kvf 1), u.oneCell' = true) := Hd (by rw [hk0, hk1]; exact row2_one)
    have x35 := (uh X5).cell 3 rfl
    have hE5 : (w3.alloc (.cells #[] 35)).heap.size = w3.heap.size + 1 := by simp
    obtain ⟨i0, hi, hz0, hz1, hz2⟩ := info_parts infoBr
    have hw4 := (uh B3).size
    have hX4' : w.heap.size < w3.heap.size := (uh X3).1
    have hL4' : L < w3.heap.size := (uh L3).1
    have hR4' : R < w3.heap.size := (uh R3).1
    clear BB X3 R3 B3 L3 x2 hk0 hk1
    go_upto_region 9 with (at_builtin; refine wpList_append_row _ rfl _ _ _ rfl w3.heap.size 35 i0 _ 4 64 Tryz.underlying33 hi hz0 hz1 hz2 rfl (by omega) _ 0 [] rfl (uh O5) _ 2 (row2 l.toBr r.toBr (kvf 0) (kvf 1)) rfl (uh HRW) rfl (uh H1C) (by unfold maxLen; omega) (by omega) (by omega) ?_; intro a6 c6 w6 hown6 hgrow6 hat6; have R6' := Hd (And.intro hown6 (And.intro hgrow6 hat6)); clear hown6 hgrow6 hat6)
    obtain ⟨hown6, hgrow6, hat6⟩ := uh R6'
    obtain ⟨g6, c6', he6, hg6, hg6'⟩ := World.ownsRow.form hown6 (by omega)
    cases he6
    rw [List.nil_append] at hown6
    have B6 := Hd (grown6 (uh B5) hgrow6 hw4)
    have T6 : Touch (fun q => q = w3.heap.size) _ w6 := grownT hgrow6
    have X6 := Hd ((uh X5).kept T6 (fun e => by have e' : w.heap.size = w3.heap.size := e; omega))
    have L6 := Hd ((uh L5).kept T6 (fun e => by have e' : L = w3.heap.size := e; omega))
    have R6 := Hd ((uh R5).kept T6 (fun e => by have e' : R = w3.heap.size := e; omega))
    have O6 := Hd hown6
    have x36 := (uh X6).cell 3 rfl
    have l60 := (uh L6).cell 0 rfl
    have l61 := (uh L6).cell 1 rfl
    have l62 := (uh L6).cell 2 rfl
    have l63 := (uh L6).cell 3 rfl
    have t0 := ((uh B6).cell (p := ⟨bb, off + kb * 4, none⟩) hbb).trans d0
    have t1 := ((uh B6).cell (p := ⟨bb, off + kb * 4 + 1, none⟩) hbb).trans d1
    have t2 := ((uh B6).cell (p := ⟨bb, off + kb * 4 + 2, none⟩) hbb).trans d2
    have t3 := ((uh B6).cell (p := ⟨bb, off + kb * 4 + 3, none⟩) hbb).trans d3
    clear hown6 hgrow6 hat6 T6 R6' X5 R5 L5 B5 O5 HRW H1C x35
    have HIH := Hd (fun wx (hbx : Below w6.heap.size w6 wx) => uh IH B0 _ wx (fun x hx => Nat.lt_of_lt_of_le (hB0 x hx) ((uh B6).trans (hbx.mono (uh B6).size)).size) ((uh KN).blw ((uh B6).trans (hbx.mono (uh B6).size))))
    have HE4 : Hid (∃ e0 e1 e2 e3, (row2 l.toBr r.toBr (kvf 0) (kvf 1))[kb * 4]? = some e0 ∧ (row2 l.toBr r.toBr (kvf 0) (kvf 1))[kb * 4 + 1]? = some e1 ∧ (row2 l.toBr r.toBr (kvf 0) (kvf 1))[kb * 4 + 2]? = some e2 ∧ (row2 l.toBr r.toBr (kvf 0) (kvf 1))[kb * 4 + 3]? = some e3) := Hd ⟨_, _, _, _, List.getElem?_eq_getElem (by simp [row2]; omega), List.getElem?_eq_getElem (by simp [row2]; omega), List.getElem?_eq_getElem (by simp [row2]; omega), List.getElem?_eq_getElem (by simp [row2]; omega)⟩
    obtain ⟨e0, e1, e2, e3, he0, he1, he2, he3⟩ := uh HE4
    have HST : Hid (∀ w7, Below w6.heap.size w6 w7 → (w7.cell? ⟨g6, kb * 4, none⟩ = some e0 ∧ w7.cell? ⟨g6, kb * 4 + 1, none⟩ = some e1 ∧ w7.cell? ⟨g6, kb * 4 + 2, none⟩ = some e2 ∧ w7.cell? ⟨g6, kb * 4 + 3, none⟩ = some e3) ∧ (w7.frozen? ⟨g6, kb * 4, none⟩ = false ∧ w7.frozen? ⟨g6, kb * 4 + 1, none⟩ = false ∧ w7.frozen? ⟨g6, kb * 4 + 2, none⟩ = false ∧ w7.frozen? ⟨g6, kb * 4 + 3, none⟩ = false)) := Hd (fun w7 hb7 => by
     have O7 := own_kept (T := fun _ => False) (uh O6) (Touch.ofBelow hb7) (fun _ _ h => h)
     exact ⟨⟨(O7.cellAt (kb * 4) (by omega)).trans he0, (O7.cellAt (kb * 4 + 1) (by omega)).trans he1, (O7.cellAt (kb * 4 + 2) (by omega)).trans he2, (O7.cellAt (kb * 4 + 3) (by omega)).trans he3⟩, O7.frozenAt (kb * 4), O7.frozenAt (kb * 4 + 1), O7.frozenAt (kb * 4 + 2), O7.frozenAt (kb * 4 + 3)⟩)
    clear he0 he1 he2 he3
    go_cut [] (fun wx => ∃ (w7 : World) (s7 : Option Addr) (n7 c7 : Nat), Brs (fun x => B0 x ∨ w6.heap.size ≤ x) w7 (.slice s7 n7 c7) t'.toBr.kids ∧ Below w6.heap.size w6 w7 ∧ wx = (((w7.setCell ⟨g6, kb * 4, none⟩ (.string t'.toBr.key)).setCell ⟨g6, kb * 4 + 1, none⟩ (.string t'.toBr.val)).setCell ⟨g6, kb * 4 + 2, none⟩ (.int .i64 t'.toBr.at_)).setCell ⟨g6, kb * 4 + 3, none⟩ (.slice s7 n7 c7))
    case first =>
     go_wp2_with fail
     go_region_law ((go_simp; go_at_call 110; refine (uh HIH _ (below_drewN (Below.refl _ _) 1)).mono ?_; rintro e w7 ⟨s7, n7, c7, rfl, hBr7, hb7⟩; (have HB7 := Hd (And.intro hBr7 ((below_drewN (Below.refl w6.heap.size w6) 1).trans hb7))); clear hBr7 hb7; (obtain ⟨⟨g0, g1, g2, g3⟩, i0', i1', i2', i3'⟩ := uh HST w7 (uh HB7).2); go_simp))
     all_goals
      go_wp2_with fail
      go_meet
      exact ⟨w7, s7, n7, c7, (uh HB7).1, (uh HB7).2, rfl⟩
    case rest =>
     obtain ⟨w7, s7, n7, c7, hBr7, hb7, hwc⟩ := hcut
     have O7 := own_kept (T := fun _ => False) (uh O6) (Touch.ofBelow hb7) (fun _ _ h => h)
     have B7 := (uh B6).trans (hb7.mono (uh B6).size)
     have hz67 := hb7.size
     have X7 := (uh X6).below hb7
     have R7 := (uh R6).below hb7
     have O8 := (((O7.stored (kb * 4) (.string t'.toBr.key)).1.stored (kb * 4 + 1) (.string t'.toBr.val)).1.stored (kb * 4 + 2) (.int .i64 t'.toBr.at_)).1.stored (kb * 4 + 3) (.slice s7 n7 c7) |>.1
     have T8 : Touch (fun q => q = g6) w7 ((((w7.setCell ⟨g6, kb * 4, none⟩ (.string t'.toBr.key)).setCell ⟨g6, kb * 4 + 1, none⟩ (.string t'.toBr.val)).setCell ⟨g6, kb * 4 + 2, none⟩ (.int .i64 t'.toBr.at_)).setCell ⟨g6, kb * 4 + 3, none⟩ (.slice s7 n7 c7)) :=
      ((((Touch.refl (fun q => q = g6) w7).setCell ⟨g6, kb * 4, none⟩ _ (fun _ => rfl)).setCell ⟨g6, kb * 4 + 1, none⟩ _ (fun _ => rfl)).setCell ⟨g6, kb * 4 + 2, none⟩ _ (fun _ => rfl)).setCell ⟨g6, kb * 4 + 3, none⟩ _ (fun _ => rfl)
     rw [← hwc] at O8 T8
     have X8 := Hd (X7.kept T8 (fun e => by have e' : w.heap.size = g6 := e; omega))
     have R8 := Hd (R7.kept T8 (fun e => by have e' : R = g6 := e; omega))
     have B8 := Hd (B7.trans (T8.below B7.size (fun q hq e => by have e' : q = g6 := e; omega)))
     have HBr8 := Hd (hBr7.touch T8 (fun q hq e => by have e' : q = g6 := e; rcases hq with hq | hq; (have h8 := hB0 q hq; omega); omega))
     have HO8 := Hd O8
     clear O7 O8 T8 B7 X7 R7 hBr7 hb7 hwc X6 R6 L6 B6 O6 x36 l60 l61 l62 l63 t0 t1 t2 t3 HIH HST HE4
     obtain ⟨w8, hw8⟩ : ∃ w8, w8 = wc := ⟨_, rfl⟩
     subst hw8
     have x28 := (uh X8).cell 2 rfl
     have r0' := (uh R8).cell 0 rfl
     have r1' := (uh R8).cell 1 rfl
     have r2' := (uh R8).cell 2 rfl
     have r3' := (uh R8).cell 3 rfl
     have f0 := (uh R8).fro 0
     have f1 := (uh R8).fro 1
     have f2 := (uh R8).fro 2
     have f3 := (uh R8).fro 3
     have hZ := set4_blk (uh R8) (.string ⟨#[]⟩) (.string ⟨#[]⟩) (.int .i64 a) (.slice (some ⟨g6, 0, none⟩) 2 c6)
     have z0 := hZ.cell 0 rfl
     have z1 := hZ.cell 1 rfl
     have z2 := hZ.cell 2 rfl
     have z3 := hZ.cell 3 rfl
     have HT4 := Hd (set4_touch w8 R (.string ⟨#[]⟩) (.string ⟨#[]⟩) (.int .i64 a) (.slice (some ⟨g6, 0, none⟩) 2 c6))
     have HBF := Hd ((uh B8).trans ((uh HT4).below (uh B8).size (fun q hq e => by have := (uh HRS); omega)))
     unfold set4 at z0 z1 z2 z3
     clear hZ
     go_wp2_with fail
     refine bodyPost_ret (v := .agg #[.string ⟨#[]⟩, .string ⟨#[]⟩, .int .i64 a, .slice (some ⟨g6, 0, none⟩) 2 c6]) (by simp [results, Tryz.results110, go_sem, z0, z1, z2, z3]) rfl ?_
     have hrs := uh HRS
     have O9 := own_kept (uh HO8) (uh HT4) (fun q hq e => by
      have e1 : g6 = q := by simpa [Value.ownBlock] using hq
      have e2 : q = R := e
      omega)
     have K9 := ((uh HBr8).touch (uh HT4) (fun q hq e => by have e2 : q = R := e; rcases hq with hq | hq; (have h8 := hB0 q hq; omega); omega)).mono (T := fun x => B0 x ∨ w.heap.size ≤ x) (fun x hx => hx.imp id (fun h => by omega))
     have zt := toBr_small (uh HOT)
     have zl := toBr_small okl
     have zr := toBr_small okr
     have L0' := (((uh HAT).kids 0 (by simp)).mono (T := fun x => B0 x ∨ w.heap.size ≤ x) (fun x hx => .inl hx)).blw (uh HBF)
     have L1' := (((uh HAT).kids 1 (by simp)).mono (T := fun x => B0 x ∨ w.heap.size ≤ x) (fun x hx => .inl hx)).blw (uh HBF)
     rcases (show kb = 0 ∨ kb = 1 by omega) with hk | hk
     ·subst hk
      exact uh HGR (some ⟨g6, 0, none⟩) 2 c6 _ (brs_two (b0 := t'.toBr) (b1 := r.toBr) (v0 := .slice s7 n7 c7) (v1 := kvf 1) O9 zt zr K9 L1' (.inr (by omega))) (uh HBF)
     ·subst hk
      exact uh HGR (some ⟨g6, 0, none⟩) 2 c6 _ (brs_two (b0 := l.toBr) (b1 := t'.toBr) (v0 := kvf 0) (v1 := .slice s7 n7 c7) O9 zl zt L0' K9 (.inr (by omega))) (uh HBF)
  ·have := l07Insert_build k v h hh at_ (by have := hr.2.1; omega) hkv (.fork a hv l r) hok (.inr (by show (at_ : Int) < (a : Int); omega)) B0 kv w hB0 hB
   unfold putT
   rw [if_neg hlt]
   exact this
end Go.Proofs.YtnhhnjmjodmacaaGreatDoor.Sha
