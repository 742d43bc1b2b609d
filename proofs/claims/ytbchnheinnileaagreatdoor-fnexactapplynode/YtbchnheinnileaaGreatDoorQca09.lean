/- What the proof of the claim needs (joined by program): BrIs BrSp LeA Cmd WrN. -/
import Derived.Test.YtbchnheinnileaaGreatDoorQca08
import Derived.Test.YtbchnheinnileaaGreatDoorQca06
import Derived.Test.YtbchnheinnileaaGreatDoorQca01
import Derived.Test.YtbchnheinnileaaGreatDoorQca00
import Derived.Deep.RegionLaw
import Derived.WalkSpells
namespace Go.Proofs.YtbchnheinnileaaGreatDoor.Sha
set_option maxRecDepth 100000
set_option maxHeartbeats 8000000
open Go.ChangeShapes Go.WideShapes Go.ChangeAt Go.RowKit
set_option linter.unusedVariables false
set_option linter.unusedSimpArgs false
theorem l07Insert_leaf (k v h k' v' : ByteArray) (B0 : Nat → Prop) (kv : Value) (w : World) (hB : Brs B0 w kv []) :
  Calls Tryz.prog 100 #[.agg #[.string k', .string v', .int .i64 256, kv], .string h, .int .i64 256, .agg #[.string k, .string v, .int .i64 256, .slice none 0 0]] w fun e w' => DrR B0 (Tr.leaf k v).toBr w e w' := by
 obtain ⟨sa, cap, rfl, hcap, hcm⟩ := hB.shape
 have HLF := Hd (fun wx => l07Leaf_any k' v' 256 sa 0 cap wx (by unfold maxLen; omega))
 rw [show decide ((0 : Nat) = 0) = true from rfl] at HLF
 dsimp only [List.length_nil] at hB ⊢
 have HGR : Hid (∀ w', Below w.heap.size w w' → DrR B0 (Tr.leaf k v).toBr w (.returned (.agg #[.string k, .string v, .int .i64 256, .slice none 0 0])) w') := Hd (fun w' hb => ⟨none, 0, 0, rfl, .nil _ _ (by unfold maxLen; omega), hb⟩)
 have B1 := Hd (((bal w (.cells #[.string k', .string v', .int .i64 256, .slice sa 0 cap] 30)).alloc (by simp) (.cells #[.string k, .string v, .int .i64 256, .slice none 0 0] 30)).alloc (by simp; omega) (.cells #[.string ⟨#[]⟩, .string ⟨#[]⟩, .int .i64 0, .slice none 0 0] 30))
 have L1 := Hd ((Blk.new (w.alloc (.cells #[.string k', .string v', .int .i64 256, .slice sa 0 cap] 30)) #[.string k, .string v, .int .i64 256, .slice none 0 0] 30 (w.heap.size + 1) (by simp)).alloc (.cells #[.string ⟨#[]⟩, .string ⟨#[]⟩, .int .i64 0, .slice none 0 0] 30))
 have R1 := Hd (Blk.new ((w.alloc (.cells #[.string k', .string v', .int .i64 256, .slice sa 0 cap] 30)).alloc (.cells #[.string k, .string v, .int .i64 256, .slice none 0 0] 30)) #[.string ⟨#[]⟩, .string ⟨#[]⟩, .int .i64 0, .slice none 0 0] 30 (w.heap.size + 1 + 1) (by simp))
 have HRS := Hd (show w.heap.size < w.heap.size + 1 + 1 by omega)
 clear hB
 go_enter Tryz.func100, Tryz.ntmps100
 go_wp2_with fail
 generalize ((w.alloc (.cells #[.string k', .string v', .int .i64 256, .slice sa 0 cap] 30)).alloc (.cells #[.string k, .string v, .int .i64 256, .slice none 0 0] 30)).alloc (.cells #[.string ⟨#[]⟩, .string ⟨#[]⟩, .int .i64 0, .slice none 0 0] 30) = w1 at *
 generalize w.heap.size + 1 + 1 = R at *
 generalize w.heap.size + 1 = L at *
 refine (uh HLF w1).mono ?_
 rintro e w2 ⟨rfl, hb2⟩
 have B2 := hbt B1 hb2
 have R2 := Hd ((uh R1).below hb2)
 have L2 := (uh L1).below hb2
 have l0 := L2.cell 0 rfl
 have l1 := L2.cell 1 rfl
 have l2 := L2.cell 2 rfl
 have l3 := L2.cell 3 rfl
 clear hb2 B1 R1 L1 L2
 have r0 := (uh R2).cell 0 rfl
 have r1 := (uh R2).cell 1 rfl
 have r2 := (uh R2).cell 2 rfl
 have r3 := (uh R2).cell 3 rfl
 have f0 := (uh R2).fro 0
 have f1 := (uh R2).fro 1
 have f2 := (uh R2).fro 2
 have f3 := (uh R2).fro 3
 have hZ := set4_blk (uh R2) (.string k) (.string v) (.int .i64 256) (.slice none 0 0)
 have z0 := hZ.cell 0 rfl
 have z1 := hZ.cell 1 rfl
 have z2 := hZ.cell 2 rfl
 have z3 := hZ.cell 3 rfl
 have HT4 := Hd (set4_touch w2 R (.string k) (.string v) (.int .i64 256) (.slice none 0 0))
 have HBF := Hd ((uh B2).trans ((uh HT4).below (uh B2).size (fun q hq e => by have := (uh HRS); omega)))
 unfold set4 at z0 z1 z2 z3
 clear hZ
 go_wp2_with fail
 refine bodyPost_ret (v := .agg #[.string k, .string v, .int .i64 256, .slice none 0 0]) (by simp [results, Tryz.results100, go_sem, z0, z1, z2, z3]) rfl ?_
 exact uh HGR _ (uh HBF)
def replT (kb a : Nat) (hv : ByteArray) (l r t' : Tr) : Tr := if kb = 0 then .fork a hv t' r else .fork a hv l t'
theorem l07Insert_any (k v h : ByteArray) (hh : h.size = 32) (at_ : Nat) (hat0 : at_ ≤ 256) (hkv : TrOK (.leaf k v)) : ∀ (t : Tr), TrOK t → ∀ (m : Nat), Rise m t → Sep t → at_ = fd (kh (leadL h t).1) h → ∀ (B0 : Nat → Prop) (kv : Value) (w : World), (∀ x, B0 x → x < w.heap.size) → Brs B0 w kv t.toBr.kids →
  Calls Tryz.prog 100 #[.agg #[.string t.toBr.key, .string t.toBr.val, .int .i64 t.toBr.at_, kv], .string h, .int .i64 at_, .agg #[.string k, .string v, .int .i64 256, .slice none 0 0]] w fun e w' => DrR B0 (putT h at_ k v t).toBr w e w' := by
 intro t
 induction t with
 | leaf k' v' =>
  intro hok m hr hs hfd B0 kv w hB0 hB
  by_cases h256 : at_ = 256
  ·subst h256
   have := l07Insert_leaf k v h k' v' B0 kv w hB
   unfold putT
   rw [if_pos rfl]
   exact this
  ·have := l07Insert_build k v h hh at_ (by omega) hkv (.leaf k' v') hok (.inl rfl) B0 kv w hB0 hB
   unfold putT
   rw [if_neg h256]
   exact this
 | fork a hv l r ihl ihr =>
  intro hok m hr hs hfd B0 kv w hB0 hB
  have hne : at_ ≠ a := fun e => by
   have h1 := ((fd_iff (kh (leadL h (.fork a hv l r)).1) h at_ (by have := hr.2.1; omega)).1 hfd.symm).2
   rw [e] at h1
   exact h1 (lead_bit h hr hs)
  by_cases hlt : a < at_
  ·obtain ⟨ha, ho9, okl, okr⟩ := hok
   obtain ⟨r0, r1, r2, r3⟩ := hr
   obtain ⟨q1, q2, q3, sl, sr⟩ := hs
   obtain ⟨sa, cap, rfl, hcap, hcm⟩ := hB.shape
   have hkm := hcm
   obtain ⟨kb, tn, hkb, hb2, HDT, okn, hgn, IH⟩ : ∃ (kb : Nat) (tn : Tr), bitN h a = kb ∧ kb < 2 ∧ Hid (putT h at_ k v (.fork a hv l r) = replT kb a hv l r (putT h at_ k v tn)) ∧ TrOK tn ∧ ([l.toBr, r.toBr] : List Br).getD kb default = tn.toBr ∧
     Hid (∀ (B0 : Nat → Prop) (kv : Value) (w : World), (∀ x, B0 x → x < w.heap.size) → Brs B0 w kv tn.toBr.kids → Calls Tryz.prog 100 #[.agg #[.string tn.toBr.key, .string tn.toBr.val, .int .i64 tn.toBr.at_, kv], .string h, .int .i64 at_, .agg #[.string k, .string v, .int .i64 256, .slice none 0 0]] w fun e w' => DrR B0 (putT h at_ k v tn).toBr w e w') := by
    rcases bitN_01 h a with hb | hb
    ·exact ⟨0, l, hb, by omega, Hd (by (conv => lhs; unfold putT; rw [if_pos hlt, if_pos hb]); rfl), okl, rfl, Hd (ihl okl _ r2 sl (by rw [hfd]; conv => lhs; unfold leadL; rw [if_pos hb]))⟩
    ·exact ⟨1, r, hb, by omega, Hd (by (conv => lhs; unfold putT; rw [if_pos hlt, if_neg (by omega)]); rfl), okr, rfl, Hd (ihr okr _ r3 sr (by rw [hfd]; conv => lhs; unfold leadL; rw [if_neg (by omega)]))⟩
   clear ihl ihr hfd hne q1 q2 q3 sl sr r0 r2 r3 ho9
   rw [uh HDT]
   have HOT : Hid (TrOK (putT h at_ k v tn)) := Hd (putT_ok h at_ k v hat0 hh hkv.1 hkv.2 tn okn)
   generalize putT h at_ k v tn = t' at *
   have HGR : Hid (∀ sa n cap w', Brs (fun x => B0 x ∨ w.heap.size ≤ x) w' (.slice sa n cap) (replT kb a hv l r t').toBr.kids → Below w.heap.size w w' → DrR B0 (replT kb a hv l r t').toBr w (.returned (.agg #[.string (replT kb a hv l r t').toBr.key, .string (replT kb a hv l r t').toBr.val, .int .i64 (replT kb a hv l r t').toBr.at_, .slice sa n cap])) w') := Hd (fun sa n cap w' h1 hb => ⟨sa, n, cap, rfl, h1, hb⟩)
   dsimp only [Tr.toBr, Br.key, Br.val, Br.at_, Br.kids] at hB hcap ⊢
   rw [show ([l.toBr, r.toBr] : List Br).length = 2 from rfl] at hB hcap ⊢
   obtain ⟨bb, off, kvf, rfl, _, hat⟩ := hB.at (by simp)
   have hbb := hat.lt
   obtain ⟨d0, d1, d2, d3⟩ := hat.cells kb (by simpa using hb2)
   have KN := Hd (hat.kids kb (by simpa using hb2))
   rw [hgn] at d0 d1 d2 KN
   obtain ⟨kan, kcn, hkvn, _, hknm⟩ := (uh KN).shape
   rw [hkvn] at KN d3
   have HLF := Hd (fun wx => l07Leaf_any ⟨#[]⟩ ⟨#[]⟩ a (some ⟨bb, off, none⟩) 2 cap wx (by unfold maxLen at hkm ⊢; omega))
   rw [show decide ((2 : Nat) = 0) = false from rfl] at HLF
   have HBT := Hd (fun wx => l07Bit_any h a wx hh r1)
   rw [hkb] at HBT
   have B1 := Hd (((bal w (.cells #[.string ⟨#[]⟩, .string ⟨#[]⟩, .int .i64 a, .slice (some ⟨bb, off, none⟩) 2 cap] 30)).alloc (by simp) (.cells #[.string k, .string v, .int .i64 256, .slice none 0 0] 30)).alloc (by simp; omega) (.cells #[.string ⟨#[]⟩, .string ⟨#[]⟩, .int .i64 0, .slice none 0 0] 30))
   have X1 := Hd (((Blk.new w #[.string ⟨#[]⟩, .string ⟨#[]⟩, .int .i64 a, .slice (some ⟨bb, off, none⟩) 2 cap] 30 w.heap.size rfl).alloc (.cells #[.string k, .string v, .int .i64 256, .slice none 0 0] 30)).alloc (.cells #[.string ⟨#[]⟩, .string ⟨#[]⟩, .int .i64 0, .slice none 0 0] 30))
   have L1 := Hd ((Blk.new (w.alloc (.cells #[.string ⟨#[]⟩, .string ⟨#[]⟩, .int .i64 a, .slice (some ⟨bb, off, none⟩) 2 cap] 30)) #[.string k, .string v, .int .i64 256, .slice none 0 0] 30 (w.heap.size + 1) (by simp)).alloc (.cells #[.string ⟨#[]⟩, .string ⟨#[]⟩, .int .i64 0, .slice none 0 0] 30))
   have R1 := Hd (Blk.new ((w.alloc (.cells #[.string ⟨#[]⟩, .string ⟨#[]⟩, .int .i64 a, .slice (some ⟨bb, off, none⟩) 2 cap] 30)).alloc (.cells #[.string k, .string v, .int .i64 256, .slice none 0 0] 30)) #[.string ⟨#[]⟩, .string ⟨#[]⟩, .int .i64 0, .slice none 0 0] 30 (w.heap.size + 1 + 1) (by simp))
   have HRS := Hd (show w.heap.size < w.heap.size + 1 + 1 ∧ w.heap.size < w.heap.size + 1 by omega)
   have HAT := Hd hat
   have hgt : ¬ (at_ : Int) < (a : Int) := by omega
   clear hB hat hkvn hkb hgn HDT
   go_enter Tryz.func100, Tryz.ntmps100
   go_upto_region 1 with fail
   generalize ((w.alloc (.cells #[.string ⟨#[]⟩, .string ⟨#[]⟩, .int .i64 a, .slice (some ⟨bb, off, none⟩) 2 cap] 30)).alloc (.cells #[.string k, .string v, .int .i64 256, .slice none 0 0] 30)).alloc (.cells #[.string ⟨#[]⟩, .string ⟨#[]⟩, .int .i64 0, .slice none 0 0] 30) = w1 at *
   generalize w.heap.size + 1 + 1 = R at *
   generalize w.heap.size + 1 = L at *
   have x0 := (uh X1).cell 0 rfl
   have x1 := (uh X1).cell 1 rfl
   have x2 := (uh X1).cell 2 rfl
   have x3 := (uh X1).cell 3 rfl
   go_cut [16] (fun s wx => s = .bool false ∧ Below w1.heap.size w1 wx)
   case first =>
    by_cases h256 : at_ = 256
    ·subst h256
     go_wp2_with fail
     refine (uh HLF w1).mono ?_
     rintro e w2 ⟨rfl, hb2'⟩
     have HB2 := Hd hb2'
     clear hb2'
     go_wp2_with fail
     go_meet
     exact ⟨rfl, uh HB2⟩
    ·have h2 : ((at_ : Int) == 256) = false := by rw [beq_eq_false_iff_ne]; omega
     go_wp2_with fail
     go_meet
     exact ⟨rfl, Below.refl _ _⟩
   case rest =>
    obtain ⟨rfl, hbc⟩ := hcut
    obtain ⟨w2, hw2⟩ : ∃ w2, w2 = wc := ⟨_, rfl⟩
    subst hw2
    have B2 := hbt B1 hbc
    have X2 := Hd ((uh X1).below hbc)
    have L2 := Hd ((uh L1).below hbc)
    have R2 := Hd ((uh R1).below hbc)
    clear x0 x1 x2 x3 hbc B1 X1 L1 R1
    have x0 := (uh X2).cell 0 rfl
    have x1 := (uh X2).cell 1 rfl
    have x2 := (uh X2).cell 2 rfl
    have x3 := (uh X2).cell 3 rfl
    go_wp2_with fail
    refine (uh HLF w2).mono ?_
    rintro e w3 ⟨rfl, hb3⟩
    have B3 := hbt B2 hb3
    have X3 := Hd ((uh X2).below hb3)
    have L3 := Hd ((uh L2).below hb3)
    have R3 := Hd ((uh R2).below hb3)
    clear hb3 B2 X2 L2 R2 HLF x0 x1 x2 x3
    have x2 := (uh X3).cell 2 rfl
    go_wp2_with fail
    refine (uh HBT w3).mono ?_
    rintro e w9 ⟨rfl, hw9⟩
    subst w9
    have m0 : (0 : Int) ≤ (kb : Int) := by omega
    have m1 : (kb : Int) < 2 := by omega
    obtain ⟨ka0, kc0, hk0, _, _⟩ := ((uh HAT).kids 0 (by simp)).shape
    obtain ⟨ka1, kc1, hk1, _, _⟩ := ((uh HAT).kids 1 (by simp)).shape
    have BB := bal w3 (.cells #[] 30)
    have B5 := hbt B3 BB
    have X5 := Hd ((uh X3).below BB)
    have L5 := Hd ((uh L3).below BB)
    have R5 := Hd ((uh R3).below BB)
    have O5 : Hid ((w3.alloc (.cells #[] 30)).ownsRow w3.heap.size 30 4 (.slice (some ⟨w3.heap.size, 0, none⟩) 0 0) 0 []) := Hd (World.ownsRow_made w3 #[] 0 (Nat.le_refl _) (by unfold maxLen; omega) rfl)
    have HRW := Hd (row2_rw (cap := cap) (uh HAT) (uh B5))
    have H1C : Hid (∀ u ∈ row2 l.toBr r.toBr (kvf 0) (kvf 1), u.oneCell' = true) := Hd (by rw [hk0, hk1]; exact row2_one)
    have x35 := (uh X5).cell 3 rfl
    have hE5 : (w3.alloc (.cells #[] 30)).heap.size = w3.heap.size + 1 := by simp
    obtain ⟨i0, hi, hz0, hz1, hz2⟩ := info_parts infoBr
    have hw4 := (uh B3).size
    have hX4' : w.heap.size < w3.heap.size := (uh X3).1
    have hL4' : L < w3.heap.size := (uh L3).1
    have hR4' : R < w3.heap.size := (uh R3).1
    clear BB X3 R3 B3 L3 x2 hk0 hk1
    go_upto_region 9 with (at_builtin; refine wpList_append_row _ rfl _ _ _ rfl w3.heap.size 30 i0 _ 4 64 Tryz.underlying28 hi hz0 hz1 hz2 rfl (by omega) _ 0 [] rfl (uh O5) _ 2 (row2 l.toBr r.toBr (kvf 0) (kvf 1)) rfl (uh HRW) rfl (uh H1C) (by unfold maxLen; omega) (by omega) (by omega) ?_; intro a6 c6 w6 hown6 hgrow6 hat6; have R6' := Hd (And.intro hown6 (And.intro hgrow6 hat6)); clear hown6 hgrow6 hat6)
    obtain ⟨hown6, hgrow6, hat6⟩ := uh R6'
    obtain ⟨g6, c6', he6, hg6, hg6'⟩ := World.ownsRow.form hown6 (by omega)
    cases he6
    rw [List.nil_append] at hown6
    have B6 := Hd (grown6 (uh B5) hgrow6 hw4)
    have T6 : Touch (fun q => q = w3.heap.size) _ w6 := grownT hgrow6
    have X6 := Hd ((uh X5).kept T6 (fun e => by have e' : w.heap.size = w3.heap.size := e; omega))
    have L6 := Hd ((uh L5).kept T6 (fun e => by have e' : L = w3.heap.size := e; omega))
    have R6 := Hd ((uh R5).kept T6 (fun e => by have e' : R = w3.heap.size := e; omega))
    have O6 := Hd hown6
    have x36 := (uh X6).cell 3 rfl
    have l60 := (uh L6).cell 0 rfl
    have l61 := (uh L6).cell 1 rfl
    have l62 := (uh L6).cell 2 rfl
    have l63 := (uh L6).cell 3 rfl
    have t0 := ((uh B6).cell (p := ⟨bb, off + kb * 4, none⟩) hbb).trans d0
    have t1 := ((uh B6).cell (p := ⟨bb, off + kb * 4 + 1, none⟩) hbb).trans d1
    have t2 := ((uh B6).cell (p := ⟨bb, off + kb * 4 + 2, none⟩) hbb).trans d2
    have t3 := ((uh B6).cell (p := ⟨bb, off + kb * 4 + 3, none⟩) hbb).trans d3
    clear hown6 hgrow6 hat6 T6 R6' X5 R5 L5 B5 O5 HRW H1C x35
    have HIH := Hd (fun wx (hbx : Below w6.heap.size w6 wx) => uh IH B0 _ wx (fun x hx => Nat.lt_of_lt_of_le (hB0 x hx) ((uh B6).trans (hbx.mono (uh B6).size)).size) ((uh KN).blw ((uh B6).trans (hbx.mono (uh B6).size))))
    have HE4 : Hid (∃ e0 e1 e2 e3, (row2 l.toBr r.toBr (kvf 0) (kvf 1))[kb * 4]? = some e0 ∧ (row2 l.toBr r.toBr (kvf 0) (kvf 1))[kb * 4 + 1]? = some e1 ∧ (row2 l.toBr r.toBr (kvf 0) (kvf 1))[kb * 4 + 2]? = some e2 ∧ (row2 l.toBr r.toBr (kvf 0) (kvf 1))[kb * 4 + 3]? = some e3) := Hd ⟨_, _, _, _, List.getElem?_eq_getElem (by simp [row2]; omega), List.getElem?_eq_getElem (by simp [row2]; omega), List.getElem?_eq_getElem (by simp [row2]; omega), List.getElem?_eq_getElem (by simp [row2]; omega)⟩
    obtain ⟨e0, e1, e2, e3, he0, he1, he2, he3⟩ := uh HE4
    have HST : Hid (∀ w7, Below w6.heap.size w6 w7 → (w7.cell? ⟨g6, kb * 4, none⟩ = some e0 ∧ w7.cell? ⟨g6, kb * 4 + 1, none⟩ = some e1 ∧ w7.cell? ⟨g6, kb * 4 + 2, none⟩ = some e2 ∧ w7.cell? ⟨g6, kb * 4 + 3, none⟩ = some e3) ∧ (w7.frozen? ⟨g6, kb * 4, none⟩ = false ∧ w7.frozen? ⟨g6, kb * 4 + 1, none⟩ = false ∧ w7.frozen? ⟨g6, kb * 4 + 2, none⟩ = false ∧ w7.frozen? ⟨g6, kb * 4 + 3, none⟩ = false)) := Hd (fun w7 hb7 => by
     have O7 := own_kept (T := fun _ => False) (uh O6) (Touch.ofBelow hb7) (fun _ _ h => h)
     exact ⟨⟨(O7.cellAt (kb * 4) (by omega)).trans he0, (O7.cellAt (kb * 4 + 1) (by omega)).trans he1, (O7.cellAt (kb * 4 + 2) (by omega)).trans he2, (O7.cellAt (kb * 4 + 3) (by omega)).trans he3⟩, O7.frozenAt (kb * 4), O7.frozenAt (kb * 4 + 1), O7.frozenAt (kb * 4 + 2), O7.frozenAt (kb * 4 + 3)⟩)
    clear he0 he1 he2 he3
    go_cut [] (fun wx => ∃ (w7 : World) (s7 : Option Addr) (n7 c7 : Nat), Brs (fun x => B0 x ∨ w6.heap.size ≤ x) w7 (.slice s7 n7 c7) t'.toBr.kids ∧ Below w6.heap.size w6 w7 ∧ wx = (((w7.setCell ⟨g6, kb * 4, none⟩ (.string t'.toBr.key)).setCell ⟨g6, kb * 4 + 1, none⟩ (.string t'.toBr.val)).setCell ⟨g6, kb * 4 + 2, none⟩ (.int .i64 t'.toBr.at_)).setCell ⟨g6, kb * 4 + 3, none⟩ (.slice s7 n7 c7))
    case first =>
     go_wp2_with fail
     go_region_law ((go_simp; go_at_call 100; refine (uh HIH _ (below_drewN (Below.refl _ _) 1)).mono ?_; rintro e w7 ⟨s7, n7, c7, rfl, hBr7, hb7⟩; (have HB7 := Hd (And.intro hBr7 ((below_drewN (Below.refl w6.heap.size w6) 1).trans hb7))); clear hBr7 hb7; (obtain ⟨⟨g0, g1, g2, g3⟩, i0', i1', i2', i3'⟩ := uh HST w7 (uh HB7).2); go_simp))
     all_goals
      go_wp2_with fail
      go_meet
      exact ⟨w7, s7, n7, c7, (uh HB7).1, (uh HB7).2, rfl⟩
    case rest =>
     obtain ⟨w7, s7, n7, c7, hBr7, hb7, hwc⟩ := hcut
     have O7 := own_kept (T := fun _ => False) (uh O6) (Touch.ofBelow hb7) (fun _ _ h => h)
     have B7 := (uh B6).trans (hb7.mono (uh B6).size)
     have hz67 := hb7.size
     have X7 := (uh X6).below hb7
     have R7 := (uh R6).below hb7
     have O8 := (((O7.stored (kb * 4) (.string t'.toBr.key)).1.stored (kb * 4 + 1) (.string t'.toBr.val)).1.stored (kb * 4 + 2) (.int .i64 t'.toBr.at_)).1.stored (kb * 4 + 3) (.slice s7 n7 c7) |>.1
     have T8 : Touch (fun q => q = g6) w7 ((((w7.setCell ⟨g6, kb * 4, none⟩ (.string t'.toBr.key)).setCell ⟨g6, kb * 4 + 1, none⟩ (.string t'.toBr.val)).setCell ⟨g6, kb * 4 + 2, none⟩ (.int .i64 t'.toBr.at_)).setCell ⟨g6, kb * 4 + 3, none⟩ (.slice s7 n7 c7)) :=
      ((((Touch.refl (fun q => q = g6) w7).setCell ⟨g6, kb * 4, none⟩ _ (fun _ => rfl)).setCell ⟨g6, kb * 4 + 1, none⟩ _ (fun _ => rfl)).setCell ⟨g6, kb * 4 + 2, none⟩ _ (fun _ => rfl)).setCell ⟨g6, kb * 4 + 3, none⟩ _ (fun _ => rfl)
     rw [← hwc] at O8 T8
     have X8 := Hd (X7.kept T8 (fun e => by have e' : w.heap.size = g6 := e; omega))
     have R8 := Hd (R7.kept T8 (fun e => by have e' : R = g6 := e; omega))
     have B8 := Hd (B7.trans (T8.below B7.size (fun q hq e => by have e' : q = g6 := e; omega)))
     have HBr8 := Hd (hBr7.touch T8 (fun q hq e => by have e' : q = g6 := e; rcases hq with hq | hq; (have h8 := hB0 q hq; omega); omega))
     have HO8 := Hd O8
     clear O7 O8 T8 B7 X7 R7 hBr7 hb7 hwc X6 R6 L6 B6 O6 x36 l60 l61 l62 l63 t0 t1 t2 t3 HIH HST HE4
     obtain ⟨w8, hw8⟩ : ∃ w8, w8 = wc := ⟨_, rfl⟩
     subst hw8
     have x28 := (uh X8).cell 2 rfl
     have r0' := (uh R8).cell 0 rfl
     have r1' := (uh R8).cell 1 rfl
     have r2' := (uh R8).cell 2 rfl
     have r3' := (uh R8).cell 3 rfl
     have f0 := (uh R8).fro 0
     have f1 := (uh R8).fro 1
     have f2 := (uh R8).fro 2
     have f3 := (uh R8).fro 3
     have hZ := set4_blk (uh R8) (.string ⟨#[]⟩) (.string ⟨#[]⟩) (.int .i64 a) (.slice (some ⟨g6, 0, none⟩) 2 c6)
     have z0 := hZ.cell 0 rfl
     have z1 := hZ.cell 1 rfl
     have z2 := hZ.cell 2 rfl
     have z3 := hZ.cell 3 rfl
     have HT4 := Hd (set4_touch w8 R (.string ⟨#[]⟩) (.string ⟨#[]⟩) (.int .i64 a) (.slice (some ⟨g6, 0, none⟩) 2 c6))
     have HBF := Hd ((uh B8).trans ((uh HT4).below (uh B8).size (fun q hq e => by have := (uh HRS); omega)))
     unfold set4 at z0 z1 z2 z3
     clear hZ
     go_wp2_with fail
     refine bodyPost_ret (v := .agg #[.string ⟨#[]⟩, .string ⟨#[]⟩, .int .i64 a, .slice (some ⟨g6, 0, none⟩) 2 c6]) (by simp [results, Tryz.results100, go_sem, z0, z1, z2, z3]) rfl ?_
     have hrs := uh HRS
     have O9 := own_kept (uh HO8) (uh HT4) (fun q hq e => by
      have e1 : g6 = q := by simpa [Value.ownBlock] using hq
      have e2 : q = R := e
      omega)
     have K9 := ((uh HBr8).touch (uh HT4) (fun q hq e => by have e2 : q = R := e; rcases hq with hq | hq; (have h8 := hB0 q hq; omega); omega)).mono (T := fun x => B0 x ∨ w.heap.size ≤ x) (fun x hx => hx.imp id (fun h => by omega))
     have zt := toBr_small (uh HOT)
     have zl := toBr_small okl
     have zr := toBr_small okr
     have L0' := (((uh HAT).kids 0 (by simp)).mono (T := fun x => B0 x ∨ w.heap.size ≤ x) (fun x hx => .inl hx)).blw (uh HBF)
     have L1' := (((uh HAT).kids 1 (by simp)).mono (T := fun x => B0 x ∨ w.heap.size ≤ x) (fun x hx => .inl hx)).blw (uh HBF)
     rcases (show kb = 0 ∨ kb = 1 by omega) with hk | hk
     ·subst hk
      exact uh HGR (some ⟨g6, 0, none⟩) 2 c6 _ (brs_two (b0 := t'.toBr) (b1 := r.toBr) (v0 := .slice s7 n7 c7) (v1 := kvf 1) O9 zt zr K9 L1' (.inr (by omega))) (uh HBF)
     ·subst hk
      exact uh HGR (some ⟨g6, 0, none⟩) 2 c6 _ (brs_two (b0 := l.toBr) (b1 := t'.toBr) (v0 := kvf 0) (v1 := .slice s7 n7 c7) O9 zl zt L0' K9 (.inr (by omega))) (uh HBF)
  ·have := l07Insert_build k v h hh at_ (by have := hr.2.1; omega) hkv (.fork a hv l r) hok (.inr (by show (at_ : Int) < (a : Int); omega)) B0 kv w hB0 hB
   unfold putT
   rw [if_neg hlt]
   exact this
def mpT (o : Option Tr) (key val : ByteArray) : Tr := match o with
 | none => .leaf key val
 | some t => putT (kh key) (putAt t key) key val t
theorem putT_lvN (h : ByteArray) (a : Nat) (k v : ByteArray) (ha : a ≤ 256) : ∀ t, TrOK t → (putT h a k v t).lvN = if a < 256 then t.lvN + 1 else t.lvN
 | .leaf k' v', ho => by
  unfold putT
  by_cases e : a = 256
  ·rw [if_pos e, if_neg (by omega)]; rfl
  ·rw [if_neg e, if_pos (by omega)]; unfold forkT; split <;> rfl
 | .fork b hb l r, ho => by
  unfold putT
  by_cases e : b < a
  ·rw [if_pos e]
   split
   ·show (putT h a k v l).lvN + r.lvN = _
    rw [putT_lvN h a k v ha l ho.2.2.1]
    show _ = if a < 256 then l.lvN + r.lvN + 1 else l.lvN + r.lvN
    split <;> omega
   ·show l.lvN + (putT h a k v r).lvN = _
    rw [putT_lvN h a k v ha r ho.2.2.2]
    show _ = if a < 256 then l.lvN + r.lvN + 1 else l.lvN + r.lvN
    split <;> omega
  ·rw [if_neg e, if_pos (by have := ho.1; omega)]
   unfold forkT
   split
   ·show 1 + (l.lvN + r.lvN) = l.lvN + r.lvN + 1; omega
   ·show (l.lvN + r.lvN) + 1 = l.lvN + r.lvN + 1; rfl
theorem tr_cnt : ∀ t : Tr, t.toBr.cnt + 1 ≤ 2 * t.lvN
 | .leaf k v => by rw [Br.cnt_eq]; show 1 + cntL [] + 1 ≤ 2 * 1; unfold cntL; omega
 | .fork a hv l r => by
  have h1 := tr_cnt l
  have h2 := tr_cnt r
  rw [Br.cnt_eq]
  show 1 + cntL [l.toBr, r.toBr] + 1 ≤ 2 * (l.lvN + r.lvN)
  rw [cntL_cons, cntL_cons]
  unfold cntL
  omega
theorem tr_cntL (t : Tr) : cntL t.toBr.kids ≤ 2 * t.lvN := by
 have h := tr_cnt t
 rw [Br.cnt_eq] at h
 omega
theorem mpT_ok {o : Option Tr} {key val : ByteArray} (ho : OkO o) (hkv : TrOK (.leaf key val)) : TrOK (mpT o key val) := by
 cases o with
 | none => exact hkv
 | some t => exact putT_ok (kh key) (putAt t key) key val (fd_le _ _) (kh_size (by have := (okK_iff.1 hkv.1).2; omega)) hkv.1 hkv.2 t ho
theorem l07Put_any (o : Option Tr) (hok : OkO o) (hri : RiseO o) (hsp : SepO o) (key val : ByteArray) (hkv : TrOK (.leaf key val)) (B0 : Nat → Prop) (kv : Value) (w : World) (hB0 : ∀ x, B0 x → x < w.heap.size) (hB : Brs B0 w kv (brOf o).kids) :
  Calls Tryz.prog 82 #[.agg #[.string (brOf o).key, .string (brOf o).val, .int .i64 (brOf o).at_, kv], .string key, .string val] w fun e w' => DrR B0 (mpT o key val).toBr w e w' := by
 obtain ⟨sa, cap, rfl, hcap, hcm⟩ := hB.shape
 have hk24 := (okK_iff.1 hkv.1).2
 have B1 := Hd ((bal w (.cells #[.string (brOf o).key, .string (brOf o).val, .int .i64 (brOf o).at_, .slice sa (brOf o).kids.length cap] 30)).alloc (by simp) (.cells #[.string ⟨#[]⟩, .string ⟨#[]⟩, .int .i64 0, .slice none 0 0] 30))
 have X1 := Hd ((Blk.new w #[.string (brOf o).key, .string (brOf o).val, .int .i64 (brOf o).at_, .slice sa (brOf o).kids.length cap] 30 w.heap.size rfl).alloc (.cells #[.string ⟨#[]⟩, .string ⟨#[]⟩, .int .i64 0, .slice none 0 0] 30))
 have R1 := Hd (Blk.new (w.alloc (.cells #[.string (brOf o).key, .string (brOf o).val, .int .i64 (brOf o).at_, .slice sa (brOf o).kids.length cap] 30)) #[.string ⟨#[]⟩, .string ⟨#[]⟩, .int .i64 0, .slice none 0 0] 30 (w.heap.size + 1) (by simp))
 have HRS := Hd (show w.heap.size < w.heap.size + 1 by omega)
 have HE := Hd (fun wx => l07Empty_any (brOf o).key (brOf o).val (brOf o).at_ (brOf o).kids sa cap wx (by omega))
 have e9 : Br.mk (brOf o).key (brOf o).val (brOf o).at_ (brOf o).kids = brOf o := by cases brOf o; rfl
 rw [e9] at HE
 clear e9
 have HKB := Hd hB
 have HNW := Hd (fun wx => l07New_any key val wx)
 clear hB
 cases o with
 | none =>
  have he : emptyBr (brOf none) = true := (empty_iff _ _ _ _).2 ⟨rfl, rfl, rfl, rfl⟩
  rw [he] at HE
  have HGR : Hid (∀ w', Below w.heap.size w w' → DrR B0 (mpT none key val).toBr w (.returned (.agg #[.string key, .string val, .int .i64 256, .slice none 0 0])) w') := Hd (fun w' hb => ⟨none, 0, 0, rfl, .nil _ _ (by unfold maxLen; omega), hb⟩)
  dsimp only [brOf, Br.key, Br.val, Br.at_, Br.kids, List.length_nil] at *
  clear he HKB
  go_enter Tryz.func82, Tryz.ntmps82
  go_wp2_with fail
  generalize (w.alloc (.cells #[.string ⟨#[]⟩, .string ⟨#[]⟩, .int .i64 0, .slice sa 0 cap] 30)).alloc (.cells #[.string ⟨#[]⟩, .string ⟨#[]⟩, .int .i64 0, .slice none 0 0] 30) = w1 at *
  generalize w.heap.size + 1 = R at *
  refine (uh HE w1).mono ?_
  rintro e w2 ⟨rfl, hb2⟩
  have B2 := hbt B1 hb2
  have R2 := Hd ((uh R1).below hb2)
  clear hb2 B1 R1 X1
  go_wp2_with fail
  refine (uh HNW w2).mono ?_
  rintro e w3 ⟨rfl, hb3⟩
  have B3 := hbt B2 hb3
  have R3 := Hd ((uh R2).below hb3)
  clear hb3 B2 R2
  have r0 := (uh R3).cell 0 rfl
  have r1 := (uh R3).cell 1 rfl
  have r2 := (uh R3).cell 2 rfl
  have r3 := (uh R3).cell 3 rfl
  have f0 := (uh R3).fro 0
  have f1 := (uh R3).fro 1
  have f2 := (uh R3).fro 2
  have f3 := (uh R3).fro 3
  have hZ := set4_blk (uh R3) (.string key) (.string val) (.int .i64 256) (.slice none 0 0)
  have z0 := hZ.cell 0 rfl
  have z1 := hZ.cell 1 rfl
  have z2 := hZ.cell 2 rfl
  have z3 := hZ.cell 3 rfl
  have HT4 := Hd (set4_touch w3 R (.string key) (.string val) (.int .i64 256) (.slice none 0 0))
  have HBF := Hd ((uh B3).trans ((uh HT4).below (uh B3).size (fun q hq e => by have := (uh HRS); omega)))
  unfold set4 at z0 z1 z2 z3
  clear hZ
  go_wp2_with fail
  refine bodyPost_ret (v := .agg #[.string key, .string val, .int .i64 256, .slice none 0 0]) (by simp [results, Tryz.results82, go_sem, z0, z1, z2, z3]) rfl ?_
  exact uh HGR _ (uh HBF)
 | some t =>
  rw [show emptyBr (brOf (some t)) = false from not_empty hok] at HE
  have HHS := Hd (fun wx => l07Hash_any key wx (by omega))
  have hks := kh_size (k := key) (by omega)
  have hlo := lead_ok (kh key) t hok
  have hlk := kh_size (k := (leadL (kh key) t).1) (by have := (okK_iff.1 hlo.1).2; omega)
  dsimp only [brOf] at *
  have HNR := Hd (fun wx (hx : Below w.heap.size w wx) => l07Near_any (kh key) hks t hok hri _ _ wx ((uh HKB).blw hx))
  have HDF := Hd (fun wx => l07Differ_any (kh key) (kh (leadL (kh key) t).1) wx hks hlk)
  rw [fd_comm] at HDF
  have HIN := Hd (fun wx (hx : Below w.heap.size w wx) => l07Insert_any key val (kh key) hks (fd (kh (leadL (kh key) t).1) (kh key)) (fd_le _ _) hkv t hok 0 hri hsp.1 rfl B0 _ wx (fun x h9 => Nat.lt_of_lt_of_le (hB0 x h9) hx.size) ((uh HKB).blw hx))
  have HMT : Hid (mpT (some t) key val = putT (kh key) (fd (kh (leadL (kh key) t).1) (kh key)) key val t) := rfl
  have HGR : Hid (∀ sa n cap w', Brs (fun x => B0 x ∨ w.heap.size ≤ x) w' (.slice sa n cap) (putT (kh key) (fd (kh (leadL (kh key) t).1) (kh key)) key val t).toBr.kids → Below w.heap.size w w' → DrR B0 (mpT (some t) key val).toBr w (.returned (.agg #[.string (putT (kh key) (fd (kh (leadL (kh key) t).1) (kh key)) key val t).toBr.key, .string (putT (kh key) (fd (kh (leadL (kh key) t).1) (kh key)) key val t).toBr.val, .int .i64 (putT (kh key) (fd (kh (leadL (kh key) t).1) (kh key)) key val t).toBr.at_, .slice sa n cap])) w') := Hd (fun sa n cap w' h1 hb => ⟨sa, n, cap, rfl, h1, hb⟩)
  generalize (putT (kh key) (fd (kh (leadL (kh key) t).1) (kh key)) key val t).toBr = D at *
  generalize kh (leadL (kh key) t).1 = lh at *
  generalize fd lh (kh key) = A at *
  generalize kh key = hh at *
  clear hlo hlk hks hok hri hsp hkv HMT HKB
  go_enter Tryz.func82, Tryz.ntmps82
  go_wp2_with fail
  generalize (w.alloc (.cells #[.string t.toBr.key, .string t.toBr.val, .int .i64 t.toBr.at_, .slice sa t.toBr.kids.length cap] 30)).alloc (.cells #[.string ⟨#[]⟩, .string ⟨#[]⟩, .int .i64 0, .slice none 0 0] 30) = w1 at *
  generalize w.heap.size + 1 = R at *
  refine (uh HE w1).mono ?_
  rintro e w2 ⟨rfl, hb2⟩
  have B2 := hbt B1 hb2
  have X2 := Hd ((uh X1).below hb2)
  have R2 := Hd ((uh R1).below hb2)
  clear hb2 B1 R1 X1 HE
  go_wp2_with fail
  refine (uh HHS w2).mono ?_
  rintro e w3 ⟨rfl, hb3⟩
  have B3 := hbt B2 hb3
  have X3 := Hd ((uh X2).below hb3)
  have R3 := Hd ((uh R2).below hb3)
  clear hb3 B2 X2 R2 HHS
  have x0 := (uh X3).cell 0 rfl
  have x1 := (uh X3).cell 1 rfl
  have x2 := (uh X3).cell 2 rfl
  have x3 := (uh X3).cell 3 rfl
  go_wp2_with fail
  refine (uh HNR w3 (uh B3)).mono ?_
  rintro e w4 ⟨rfl, hb4⟩
  have B4 := hbt B3 hb4
  have X4 := Hd ((uh X3).below hb4)
  have R4 := Hd ((uh R3).below hb4)
  clear hb4 B3 X3 R3 HNR x0 x1 x2 x3
  go_wp2_with fail
  refine (uh HDF w4).mono ?_
  rintro e w9 ⟨rfl, hw9⟩
  subst w9
  have x0 := (uh X4).cell 0 rfl
  have x1 := (uh X4).cell 1 rfl
  have x2 := (uh X4).cell 2 rfl
  have x3 := (uh X4).cell 3 rfl
  have HSX : Hid (∀ wx, Below w4.heap.size w4 wx → wx.cell? ⟨w.heap.size, 0, none⟩ = some (.string t.toBr.key) ∧ wx.cell? ⟨w.heap.size, 1, none⟩ = some (.string t.toBr.val) ∧ wx.cell? ⟨w.heap.size, 2, none⟩ = some (.int .i64 t.toBr.at_) ∧ wx.cell? ⟨w.heap.size, 3, none⟩ = some (.slice sa t.toBr.kids.length cap)) := Hd (fun wx hb => by
   have X := (uh X4).below hb
   exact ⟨X.cell 0 rfl, X.cell 1 rfl, X.cell 2 rfl, X.cell 3 rfl⟩)
  go_upto_region 5 with fail
  go_cut [] (fun wx => ∃ (w7 : World) (s7 : Option Addr) (n7 c7 : Nat), Brs (fun x => B0 x ∨ w4.heap.size ≤ x) w7 (.slice s7 n7 c7) D.kids ∧ Below w4.heap.size w4 w7 ∧ wx = set4 w7 R (.string D.key) (.string D.val) (.int .i64 D.at_) (.slice s7 n7 c7))
  case first =>
   go_wp2_with fail
   go_region_law (first
    | (go_simp; go_at_call 100; refine (uh HIN w5 ((uh B4).trans ((uh HB5).mono (uh B4).size))).mono ?_; rintro e w7 ⟨s7, n7, c7, rfl, hBr7, hb7⟩; (have HB7 := Hd (And.intro (hBr7.mono (T := fun x => B0 x ∨ w4.heap.size ≤ x) (fun x hx => hx.imp id (fun h => by have := (uh HB5).size; omega))) ((uh HB5).trans (hb7.mono (uh HB5).size)))); clear hBr7 hb7; (have R7 := (uh R4).below (uh HB7).2); (have r0 := R7.cell 0 rfl); (have r1 := R7.cell 1 rfl); (have r2 := R7.cell 2 rfl); (have r3 := R7.cell 3 rfl); (have f0 := R7.fro 0); (have f1 := R7.fro 1); (have f2 := R7.fro 2); (have f3 := R7.fro 3); clear R7; go_simp)
    | (go_simp; go_at_call 97; refine (uh HNW _).mono ?_; rintro e w5 ⟨rfl, hb5⟩; (have HB5 := Hd ((below_drewN (Below.refl w4.heap.size w4) 1).trans hb5)); clear hb5; (obtain ⟨y0, y1, y2, y3⟩ := uh HSX w5 (uh HB5)); go_simp))
   all_goals
    go_wp2_with fail
    go_meet
    exact ⟨w7, s7, n7, c7, (uh HB7).1, (uh HB7).2, rfl⟩
  case rest =>
   obtain ⟨w7, s7, n7, c7, hBr7, hb7, hwc⟩ := hcut
   have B7 := (uh B4).trans (hb7.mono (uh B4).size)
   have hZ := set4_blk ((uh R4).below hb7) (.string D.key) (.string D.val) (.int .i64 D.at_) (.slice s7 n7 c7)
   have HT4 := set4_touch w7 R (.string D.key) (.string D.val) (.int .i64 D.at_) (.slice s7 n7 c7)
   rw [← hwc] at hZ HT4
   have HBF := Hd (B7.trans (HT4.below B7.size (fun q hq e => by have := (uh HRS); omega)))
   have hR4 := (uh R4).1
   have HBR := Hd ((hBr7.touch HT4 (fun q hq e => by have e2 : q = R := e; have := uh HRS; rcases hq with hq | hq; (have h8 := hB0 q hq; omega); omega)).mono (T := fun x => B0 x ∨ w.heap.size ≤ x) (fun x hx => hx.imp id (fun h => by have := (uh B4).size; omega)))
   have z0 := hZ.cell 0 rfl
   have z1 := hZ.cell 1 rfl
   have z2 := hZ.cell 2 rfl
   have z3 := hZ.cell 3 rfl
   clear hZ HT4 B7 hBr7 hb7 hwc B4 X4 R4 x0 x1 x2 x3 HSX HIN HNW HDF
   obtain ⟨w8, hw8⟩ : ∃ w8, w8 = wc := ⟨_, rfl⟩
   subst hw8
   go_wp2_with fail
   refine bodyPost_ret (v := .agg #[.string D.key, .string D.val, .int .i64 D.at_, .slice s7 n7 c7]) (by simp [results, Tryz.results82, go_sem, z0, z1, z2, z3]) rfl ?_
   exact uh HGR _ _ _ _ (uh HBR) (uh HBF)
end Go.Proofs.YtbchnheinnileaaGreatDoor.Sha
namespace Go.Proofs.YtbchnheinnileaaGreatDoor.Sha
set_option maxRecDepth 100000
set_option maxHeartbeats 8000000
open Go.ChangeShapes Go.WideShapes Go.ChangeAt Go.RowKit
set_option linter.unusedVariables false
def vbV (kind : Int) (val was : ByteArray) : ByteArray := if kind = 2 then was ++ val else if kind = 3 then was else val
theorem valueBy_any (kind ses seq : Int) (key val was : ByteArray) (w : World) (hw : was.size ≤ 1048576) (hv : val.size ≤ 1048576) :
  Calls Tryz.prog 106 #[.agg #[.int .i64 kind, .int .i64 ses, .int .i64 seq, .string key, .string val], .string was] w fun e w' => e = .returned (.string (vbV kind val was)) ∧ Below w.heap.size w w' := by
 by_cases h2 : kind = 2
 ·have H := Hd (show vbV kind val was = was ++ val by unfold vbV; rw [if_pos h2])
  subst kind
  go_enter Tryz.func106, Tryz.ntmps106
  go_wp2_with fail
  go_ret
  refine ⟨(congrArg (fun x => Ending.returned (Value.string x)) (uh H)).symm, (Below.refl _ _).alloc (Nat.le_refl _) _⟩
 ·by_cases h3 : kind = 3
  ·have H := Hd (show vbV kind val was = was by unfold vbV; rw [if_neg h2, if_pos h3])
   subst kind
   go_enter Tryz.func106, Tryz.ntmps106
   go_wp2_with fail
   go_ret
   refine ⟨(congrArg (fun x => Ending.returned (Value.string x)) (uh H)).symm, (Below.refl _ _).alloc (Nat.le_refl _) _⟩
  ·have H := Hd (show vbV kind val was = val by unfold vbV; rw [if_neg h2, if_neg h3])
   go_enter Tryz.func106, Tryz.ntmps106
   go_wp2_with fail
   go_ret
   refine ⟨(congrArg (fun x => Ending.returned (Value.string x)) (uh H)).symm, (Below.refl _ _).alloc (Nat.le_refl _) _⟩
theorem wrapEx (x : Int) (h0 : -9223372036854775808 ≤ x) (h1 : x < 9223372036854775808) : IntKind.i64.wrap x = x := by
 simp only [IntKind.wrap, IntKind.bits, IntKind.signed]
 simp
 omega
def exV (n k : Nat) (there : Bool) (z : Nat) : Int := if there = true then max ((n : Int) + 1 - 50) ((z : Int) - 60) else max (max ((n : Int) + 1 - 50) ((z : Int) - 60)) ((k : Int) + 1 - 40)
theorem excess_of (p n k : Nat) (there : Bool) (value : ByteArray) (w : World) (hn : n ≤ 1048576) (hk : k ≤ 1000) (hv : value.size ≤ 2097152)
  (hP : ∀ wx, Below w.heap.size w wx → Calls Tryz.prog 111 #[.pointer (some ⟨p, 0, none⟩)] wx fun e w' => e = .returned (.int .i64 n) ∧ w' = wx)
  (hK : ∀ wx, Below w.heap.size w wx → Calls Tryz.prog 117 #[.pointer (some ⟨p, 1, none⟩)] wx fun e w' => e = .returned (.int .i64 k) ∧ Below wx.heap.size wx w') :
  Calls Tryz.prog 107 #[.pointer (some ⟨p, 0, none⟩), .bool there, .string value] w fun e w' => e = .returned (.int .i64 (exV n k there value.size)) ∧ Below w.heap.size w w' := by
 have HP := Hd hP
 have HK := Hd hK
 clear hP hK
 go_enter Tryz.func107, Tryz.ntmps107
 go_wp2_with fail
 refine (uh HP _ (Below.refl _ _)).mono ?_
 rintro e w9 ⟨rfl, hw9⟩
 subst w9
 have q1 : IntKind.i64.wrap ((n : Int) + 1) = (n : Int) + 1 := wrapEx _ (by omega) (by omega)
 have q2 : IntKind.i64.wrap ((n : Int) + 1 - 50) = (n : Int) + 1 - 50 := wrapEx _ (by omega) (by omega)
 have q3 : IntKind.i64.wrap ((value.size : Int) - 60) = (value.size : Int) - 60 := wrapEx _ (by omega) (by omega)
 have q4 : IntKind.i64.wrap ((k : Int) + 1) = (k : Int) + 1 := wrapEx _ (by omega) (by omega)
 have q5 : IntKind.i64.wrap ((k : Int) + 1 - 40) = (k : Int) + 1 - 40 := wrapEx _ (by omega) (by omega)
 cases there
 ·go_wp2_with fail
  all_goals
   refine (uh HK _ (Below.refl _ _)).mono ?_
   rintro e w1 ⟨rfl, hb1⟩
   have KB := Hd hb1
   clear hb1
   go_wp2_with fail
  all_goals
   go_ret
   exact ⟨ret_int (by unfold exV; simp only [Bool.false_eq_true, if_false]; omega), uh KB⟩
 ·go_wp2_with fail
  all_goals
   go_ret
   exact ⟨ret_int (by unfold exV; simp only [if_true]; omega), Below.refl _ _⟩
end Go.Proofs.YtbchnheinnileaaGreatDoor.Sha
namespace Go.Proofs.YtbchnheinnileaaGreatDoor
set_option maxRecDepth 100000
set_option maxHeartbeats 8000000
open Go.ChangeShapes Go.WideShapes Go.ChangeAt Go.RowKit
set_option linter.unusedVariables false
theorem keyOK_any (s : ByteArray) (w : World) (hs : s.size ≤ maxLen) :
  Calls Tryz.prog 67 #[.string s] w fun e w' => e = .returned (.bool (inB s.size 1 24)) ∧ w' = w := by
 unfold maxLen at hs
 go_enter Tryz.func67, Tryz.ntmps67
 go_wp2_with fail
 refine (within_any _ _ _ _).mono ?_
 rintro e w' ⟨rfl, rfl⟩
 go_wp2
 go_ret
 exact ⟨rfl, rfl⟩
theorem l02Key_any (s : ByteArray) (w : World) (hs : s.size ≤ maxLen) :
  Calls Tryz.prog 77 #[.string s] w fun e w' => e = .returned (.bool (inB s.size 1 24)) ∧ w' = w := by
 unfold maxLen at hs
 by_cases h1 : 1 ≤ (s.size : Int)
 ·go_enter Tryz.func77, Tryz.ntmps77
  go_wp2
  go_ret
  exact ⟨ret_bool (by simp [inB, h1]), rfl⟩
 ·have H := Hd (show inB s.size 1 24 = false by simp [inB]; omega)
  go_enter Tryz.func77, Tryz.ntmps77
  go_wp2
  go_ret
  exact ⟨ret_bool (uh H).symm, rfl⟩

def cmdOK (k s q : Int) (key val : ByteArray) : Bool :=
 if inB s 0 65535 && inB q 0 65535 && decide (val.size ≤ 60) then
  (if k = 1 ∨ k = 2 then inB key.size 1 24 else if k = 3 then inB key.size 1 24 && emptyB val else if k = 4 ∨ k = 5 then emptyB key && emptyB val && decide (q = 0) else false)
 else false

theorem implCommandOK_any (k s q : Int) (key val : ByteArray) (w : World) (hk : key.size ≤ maxLen) (hv : val.size ≤ maxLen) :
  Calls Tryz.prog 49 #[.agg #[.int .i64 k, .int .i64 s, .int .i64 q, .string key, .string val]] w fun e w' => e = .returned (.bool (cmdOK k s q key val)) ∧ Below w.heap.size w w' := by
 unfold maxLen at hk hv
 have HB : ∀ o, Below w.heap.size w (w.alloc o) := fun o => (Below.refl _ _).alloc (Nat.le_refl _) o
 have H5 := Hd HB
 clear HB
 rcases Bool.eq_false_or_eq_true (inB s 0 65535) with h1 | h1
 case inr =>
  have H := Hd (show cmdOK k s q key val = false by simp [cmdOK, h1])
  go_enter Tryz.func49, Tryz.ntmps49
  go_wp2_with (first | (go_at_call 44; refine (within_any _ _ _ _).mono ?_; rintro e w' ⟨rfl, rfl⟩) | (go_at_call 67; refine (keyOK_any _ _ (by unfold maxLen; omega)).mono ?_; rintro e w' ⟨rfl, rfl⟩))
  go_ret
  exact ⟨ret_bool (uh H).symm, uh H5 _⟩
 rcases Bool.eq_false_or_eq_true (inB q 0 65535) with h2 | h2
 case inr =>
  have H := Hd (show cmdOK k s q key val = false by simp [cmdOK, h2])
  go_enter Tryz.func49, Tryz.ntmps49
  go_wp2_with (first | (go_at_call 44; refine (within_any _ _ _ _).mono ?_; rintro e w' ⟨rfl, rfl⟩) | (go_at_call 67; refine (keyOK_any _ _ (by unfold maxLen; omega)).mono ?_; rintro e w' ⟨rfl, rfl⟩))
  go_ret
  exact ⟨ret_bool (uh H).symm, uh H5 _⟩
 by_cases h3 : (60 : Int) < (val.size : Int)
 ·have H := Hd (show cmdOK k s q key val = false by simp [cmdOK]; omega)
  go_enter Tryz.func49, Tryz.ntmps49
  go_wp2_with (first | (go_at_call 44; refine (within_any _ _ _ _).mono ?_; rintro e w' ⟨rfl, rfl⟩) | (go_at_call 67; refine (keyOK_any _ _ (by unfold maxLen; omega)).mono ?_; rintro e w' ⟨rfl, rfl⟩))
  go_ret
  exact ⟨ret_bool (uh H).symm, uh H5 _⟩
 have h3' : val.size ≤ 60 := by omega
 have E := Hd (show cmdOK k s q key val = (if k = 1 ∨ k = 2 then inB key.size 1 24 else if k = 3 then inB key.size 1 24 && emptyB val else if k = 4 ∨ k = 5 then emptyB key && emptyB val && decide (q = 0) else false) by simp [cmdOK, h1, h2, h3'])
 clear h3'
 by_cases k1 : k = 1
 ·have H := Hd ((uh E).trans (by rw [if_pos (Or.inl k1)]))
  subst k1
  go_enter Tryz.func49, Tryz.ntmps49
  go_wp2_with (first | (go_at_call 44; refine (within_any _ _ _ _).mono ?_; rintro e w' ⟨rfl, rfl⟩) | (go_at_call 67; refine (keyOK_any _ _ (by unfold maxLen; omega)).mono ?_; rintro e w' ⟨rfl, rfl⟩))
  go_ret
  exact ⟨ret_bool (uh H).symm, uh H5 _⟩
 by_cases k2 : k = 2
 ·have H := Hd ((uh E).trans (by rw [if_pos (Or.inr k2)]))
  subst k2
  go_enter Tryz.func49, Tryz.ntmps49
  go_wp2_with (first | (go_at_call 44; refine (within_any _ _ _ _).mono ?_; rintro e w' ⟨rfl, rfl⟩) | (go_at_call 67; refine (keyOK_any _ _ (by unfold maxLen; omega)).mono ?_; rintro e w' ⟨rfl, rfl⟩))
  go_ret
  exact ⟨ret_bool (uh H).symm, uh H5 _⟩
 by_cases k3 : k = 3
 ·have H := Hd ((uh E).trans (by rw [if_neg (by omega), if_pos k3]))
  subst k3
  rcases Bool.eq_false_or_eq_true (inB key.size 1 24) with h4 | h4
  ·go_enter Tryz.func49, Tryz.ntmps49
   go_wp2_with (first | (go_at_call 44; refine (within_any _ _ _ _).mono ?_; rintro e w' ⟨rfl, rfl⟩) | (go_at_call 67; refine (keyOK_any _ _ (by unfold maxLen; omega)).mono ?_; rintro e w' ⟨rfl, rfl⟩))
   all_goals
    go_ret
    exact ⟨ret_bool (by rw [uh H, h4]; simp [emptyB]), uh H5 _⟩
  ·go_enter Tryz.func49, Tryz.ntmps49
   go_wp2_with (first | (go_at_call 44; refine (within_any _ _ _ _).mono ?_; rintro e w' ⟨rfl, rfl⟩) | (go_at_call 67; refine (keyOK_any _ _ (by unfold maxLen; omega)).mono ?_; rintro e w' ⟨rfl, rfl⟩))
   go_ret
   exact ⟨ret_bool (by rw [uh H, h4]; simp), uh H5 _⟩
 by_cases k4 : k = 4 ∨ k = 5
 ·have H := Hd ((uh E).trans (by rw [if_neg (by omega), if_neg k3, if_pos k4]))
  clear E k1 k2 k3
  have H4 := Hd k4
  clear k4
  rcases Bool.eq_false_or_eq_true (emptyB key) with h4 | h4 <;> rcases Bool.eq_false_or_eq_true (emptyB val) with h5 | h5
  all_goals
   unfold emptyB at h4 h5
   rcases uh H4 with k4 | k4
   all_goals
    subst k4
    go_enter Tryz.func49, Tryz.ntmps49
    go_wp2_with (first | (go_at_call 44; refine (within_any _ _ _ _).mono ?_; rintro e w' ⟨rfl, rfl⟩) | (go_at_call 67; refine (keyOK_any _ _ (by unfold maxLen; omega)).mono ?_; rintro e w' ⟨rfl, rfl⟩))
    all_goals
     go_ret
     refine ⟨ret_bool ?_, uh H5 _⟩
     rw [uh H]
     simp [emptyB, h4, h5]
     try rfl
 ·have H := Hd ((uh E).trans (by rw [if_neg (by omega), if_neg k3, if_neg k4]))
  have k5 : ¬ k = 4 := by omega
  have k6 : ¬ k = 5 := by omega
  clear k4 E
  go_enter Tryz.func49, Tryz.ntmps49
  go_wp2_with (first | (go_at_call 44; refine (within_any _ _ _ _).mono ?_; rintro e w' ⟨rfl, rfl⟩) | (go_at_call 67; refine (keyOK_any _ _ (by unfold maxLen; omega)).mono ?_; rintro e w' ⟨rfl, rfl⟩))
  go_ret
  exact ⟨ret_bool (uh H).symm, uh H5 _⟩
theorem specCommandOK_any (k s q : Int) (key val : ByteArray) (w : World) (hk : key.size ≤ maxLen) (hv : val.size ≤ maxLen) :
  Calls Tryz.prog 62 #[.agg #[.int .i64 k, .int .i64 s, .int .i64 q, .string key, .string val]] w fun e w' => e = .returned (.bool (cmdOK k s q key val)) ∧ Below w.heap.size w w' := by
 unfold maxLen at hk hv
 have HB : ∀ o, Below w.heap.size w (w.alloc o) := fun o => (Below.refl _ _).alloc (Nat.le_refl _) o
 have H5 := Hd HB
 clear HB
 rcases Bool.eq_false_or_eq_true (inB s 0 65535) with h1 | h1
 case inr =>
  have H := Hd (show cmdOK k s q key val = false by simp [cmdOK, h1])
  go_enter Tryz.func62, Tryz.ntmps62
  go_wp2_with (first | (go_at_call 37; refine (l01In_any _ _ _ _).mono ?_; rintro e w' ⟨rfl, rfl⟩) | (go_at_call 77; refine (l02Key_any _ _ (by unfold maxLen; omega)).mono ?_; rintro e w' ⟨rfl, rfl⟩))
  go_ret
  exact ⟨ret_bool (uh H).symm, uh H5 _⟩
 rcases Bool.eq_false_or_eq_true (inB q 0 65535) with h2 | h2
 case inr =>
  have H := Hd (show cmdOK k s q key val = false by simp [cmdOK, h2])
  go_enter Tryz.func62, Tryz.ntmps62
  go_wp2_with (first | (go_at_call 37; refine (l01In_any _ _ _ _).mono ?_; rintro e w' ⟨rfl, rfl⟩) | (go_at_call 77; refine (l02Key_any _ _ (by unfold maxLen; omega)).mono ?_; rintro e w' ⟨rfl, rfl⟩))
  go_ret
  exact ⟨ret_bool (uh H).symm, uh H5 _⟩
 by_cases h3 : (60 : Int) < (val.size : Int)
 ·have H := Hd (show cmdOK k s q key val = false by simp [cmdOK]; omega)
  go_enter Tryz.func62, Tryz.ntmps62
  go_wp2_with (first | (go_at_call 37; refine (l01In_any _ _ _ _).mono ?_; rintro e w' ⟨rfl, rfl⟩) | (go_at_call 77; refine (l02Key_any _ _ (by unfold maxLen; omega)).mono ?_; rintro e w' ⟨rfl, rfl⟩))
  go_ret
  exact ⟨ret_bool (uh H).symm, uh H5 _⟩
 have h3' : val.size ≤ 60 := by omega
 have E := Hd (show cmdOK k s q key val = (if k = 1 ∨ k = 2 then inB key.size 1 24 else if k = 3 then inB key.size 1 24 && emptyB val else if k = 4 ∨ k = 5 then emptyB key && emptyB val && decide (q = 0) else false) by simp [cmdOK, h1, h2, h3'])
 clear h3'
 by_cases k1 : k = 1
 ·have H := Hd ((uh E).trans (by rw [if_pos (Or.inl k1)]))
  subst k1
  go_enter Tryz.func62, Tryz.ntmps62
  go_wp2_with (first | (go_at_call 37; refine (l01In_any _ _ _ _).mono ?_; rintro e w' ⟨rfl, rfl⟩) | (go_at_call 77; refine (l02Key_any _ _ (by unfold maxLen; omega)).mono ?_; rintro e w' ⟨rfl, rfl⟩))
  go_ret
  exact ⟨ret_bool (uh H).symm, uh H5 _⟩
 by_cases k2 : k = 2
 ·have H := Hd ((uh E).trans (by rw [if_pos (Or.inr k2)]))
  subst k2
  go_enter Tryz.func62, Tryz.ntmps62
  go_wp2_with (first | (go_at_call 37; refine (l01In_any _ _ _ _).mono ?_; rintro e w' ⟨rfl, rfl⟩) | (go_at_call 77; refine (l02Key_any _ _ (by unfold maxLen; omega)).mono ?_; rintro e w' ⟨rfl, rfl⟩))
  go_ret
  exact ⟨ret_bool (uh H).symm, uh H5 _⟩
 by_cases k3 : k = 3
 ·have H := Hd ((uh E).trans (by rw [if_neg (by omega), if_pos k3]))
  subst k3
  rcases Bool.eq_false_or_eq_true (inB key.size 1 24) with h4 | h4
  ·go_enter Tryz.func62, Tryz.ntmps62
   go_wp2_with (first | (go_at_call 37; refine (l01In_any _ _ _ _).mono ?_; rintro e w' ⟨rfl, rfl⟩) | (go_at_call 77; refine (l02Key_any _ _ (by unfold maxLen; omega)).mono ?_; rintro e w' ⟨rfl, rfl⟩))
   all_goals
    go_ret
    exact ⟨ret_bool (by rw [uh H, h4]; simp [emptyB]), uh H5 _⟩
  ·go_enter Tryz.func62, Tryz.ntmps62
   go_wp2_with (first | (go_at_call 37; refine (l01In_any _ _ _ _).mono ?_; rintro e w' ⟨rfl, rfl⟩) | (go_at_call 77; refine (l02Key_any _ _ (by unfold maxLen; omega)).mono ?_; rintro e w' ⟨rfl, rfl⟩))
   go_ret
   exact ⟨ret_bool (by rw [uh H, h4]; simp), uh H5 _⟩
 by_cases k4 : k = 4 ∨ k = 5
 ·have H := Hd ((uh E).trans (by rw [if_neg (by omega), if_neg k3, if_pos k4]))
  clear E k1 k2 k3
  have H4 := Hd k4
  clear k4
  rcases Bool.eq_false_or_eq_true (emptyB key) with h4 | h4 <;> rcases Bool.eq_false_or_eq_true (emptyB val) with h5 | h5
  all_goals
   unfold emptyB at h4 h5
   rcases uh H4 with k4 | k4
   all_goals
    subst k4
    go_enter Tryz.func62, Tryz.ntmps62
    go_wp2_with (first | (go_at_call 37; refine (l01In_any _ _ _ _).mono ?_; rintro e w' ⟨rfl, rfl⟩) | (go_at_call 77; refine (l02Key_any _ _ (by unfold maxLen; omega)).mono ?_; rintro e w' ⟨rfl, rfl⟩))
    all_goals
     go_ret
     refine ⟨ret_bool ?_, uh H5 _⟩
     rw [uh H]
     simp [emptyB, h4, h5]
     try rfl
 ·have H := Hd ((uh E).trans (by rw [if_neg (by omega), if_neg k3, if_neg k4]))
  have k5 : ¬ k = 4 := by omega
  have k6 : ¬ k = 5 := by omega
  clear k4 E
  go_enter Tryz.func62, Tryz.ntmps62
  go_wp2_with (first | (go_at_call 37; refine (l01In_any _ _ _ _).mono ?_; rintro e w' ⟨rfl, rfl⟩) | (go_at_call 77; refine (l02Key_any _ _ (by unfold maxLen; omega)).mono ?_; rintro e w' ⟨rfl, rfl⟩))
  go_ret
  exact ⟨ret_bool (uh H).symm, uh H5 _⟩
def encN (n : Int) : Nat → List Int
 | 0 => []
 | m + 1 => (n / 256 ^ m % 256) :: encN n m
def encAll (m : Nat) : List Int → List Int
 | [] => []
 | n :: r => encN n m ++ encAll m r
theorem encN_len (n : Int) (m : Nat) : (encN n m).length = m := by
 induction m with
 | zero => rfl
 | succ m ih => simp [encN, ih]
theorem encAll_len (m : Nat) (l : List Int) : (encAll m l).length = m * l.length := by
 induction l with
 | nil => rfl
 | cons n r ih => simp [encAll, encN_len, ih, Nat.mul_add]; omega

theorem encAll_drop (m : Nat) (l : List Int) (k : Nat) (h : k < l.length) : encAll m (l.drop k) = encN (l.getD k 0) m ++ encAll m (l.drop (k + 1)) := by
 rw [List.drop_eq_getElem_cons h, List.getD_eq_getElem?_getD, List.getElem?_eq_getElem h]; rfl
theorem gather_len {m k : Nat} {xs ys ns : List Int} (h : ys ++ encAll m (ns.drop k) = xs ++ encAll m ns) (hm : m ≤ 4) (hx : xs.length ≤ 70000) (hn : ns.length ≤ 4096) : ys.length ≤ 86400 := by
 have e := congrArg List.length h
 rw [List.length_append, List.length_append, encAll_len m ns] at e
 have : m * ns.length ≤ 4 * 4096 := Nat.mul_le_mul hm hn
 omega
theorem gather_len2 {m j : Nat} {n : Int} {zs ys : List Int} (h : zs ++ encN n j = ys ++ encN n m) (hm : m ≤ 4) (hy : ys.length ≤ 86400) : zs.length ≤ 86404 := by
 have e := congrArg List.length h
 rw [List.length_append, List.length_append, encN_len, encN_len] at e
 omega
theorem wrapI (n : Int) (h0 : 0 ≤ n) (h1 : n < 9223372036854775808) : IntKind.i64.wrap n = n := by
 simp only [IntKind.wrap, IntKind.bits, IntKind.signed]
 simp
 omega
theorem wrapB (n : Int) (q : Nat) : IntKind.u8.wrap (n / 2 ^ (8 * (q : Int)).toNat) = n / 256 ^ q % 256 := by
 have e : (2 : Int) ^ (8 * (q : Int)).toNat = 256 ^ q := by
  rw [show (8 * (q : Int)).toNat = 8 * q by omega, Int.pow_mul]; rfl
 rw [e]; simp [IntKind.wrap, IntKind.bits, IntKind.signed]
theorem numbers_any (b m : Nat) (v : Value) (xs ns : List Int) (L off cap : Nat) (w : World) (h : Wr w b v xs) (hm : m ≤ 4) (hL : L < w.heap.size) (hLb : L ≠ b) (hLv : v.ownBlock ≠ some L)
  (hc : ∀ i, i < ns.length → w.cell? ⟨L, off + i, none⟩ = some (.int .i64 (ns.getD i 0))) (hr : ∀ i, 0 ≤ ns.getD i 0 ∧ ns.getD i 0 < 4294967296) (hlen : ns.length ≤ 4096) (hxl : xs.length ≤ 70000) :
  Calls Tryz.prog 135 #[.pointer (some ⟨b, 0, none⟩), .int .i64 m, .slice (some ⟨L, off, none⟩) ns.length cap] w fun e w' => e = .returned (.tuple #[]) ∧ ∃ v', Wr w' b v' (xs ++ encAll m ns) ∧ Touch (WT b v) w w' ∧ Lies v v' w.heap.size := by
 obtain ⟨i0, hi, hz0, hz1, hz2⟩ := info_parts info5
 have HW := Hd h
 have HC := Hd hc
 have HR := Hd hr
 clear h hc hr
 go_enter Tryz.func135, Tryz.ntmps135
 go_wp2_with fail
 go_loopw [7, 8, 11] (fun _ _ i wr => ∃ (k : Nat) (u : Value) (ys : List Int), k ≤ ns.length ∧ i = .int .i64 k ∧ Wr wr b u ys ∧ ys ++ encAll m (ns.drop k) = xs ++ encAll m ns ∧ Touch (WT b v) w wr ∧ Lies v u w.heap.size) (fun _ _ i _ => ns.length - (intOf i).toNat)
 case atStart => exact ⟨0, v, xs, Nat.zero_le _, rfl, uh HW, rfl, Touch.refl _ _, Lies.refl _ _⟩
 case round =>
  obtain ⟨k, u, ys, hk, rfl, hW, hE, hT, hLi⟩ := hrel
  by_cases hlt : k < ns.length
  ·have hs1 : wr.cell? ⟨L, off + k, none⟩ = some (.int .i64 (ns.getD k 0)) := by
    rw [hT.cell (p := ⟨L, off + k, none⟩) hL (fun hx => by rcases hx with h1 | h1; exact hLb h1; exact hLv h1)]
    exact uh HC k hlt
   have hr1 := uh HR k
   have hk0 : (0 : Int) ≤ (k : Int) := by omega
   have hk1 : (k : Int) < (ns.length : Int) := by omega
   have HR2 := Hd (And.intro hW (And.intro hE (And.intro hT hLi)))
   have hyl := gather_len hE hm hxl hlen
   have HD := Hd (encAll_drop m ns k hlt)
   clear hW hE hT hLi
   generalize ns.getD k 0 = n at *
   go_wp2_with fail
   obtain ⟨wo, rfl⟩ : ∃ wo : World, wo = wr := ⟨_, rfl⟩
   go_loopw [8] (fun i wr => ∃ (j : Nat) (u' : Value) (zs : List Int), j ≤ m ∧ (∃ x : Int, x = (j : Int) - 1 ∧ i = .int .i64 x) ∧ Wr wr b u' zs ∧ zs ++ encN n j = ys ++ encN n m ∧ Touch (WT b v) w wr ∧ Lies v u' w.heap.size) (fun i _ => ((intOf i) + 1).toNat)
   case atStart => 
    obtain ⟨hW, hE, hT, hLi⟩ := uh HR2
    exact ⟨m, u, ys, Nat.le_refl _, ⟨_, rfl, rfl⟩, hW, rfl, hT, hLi⟩
   case round =>
    obtain ⟨j, u', zs, hj, ⟨x, hx, rfl⟩, hW', hE', hT', hLi'⟩ := hrel
    have hzl := gather_len2 hE' hm hyl
    by_cases hj0 : 0 < j
    ·obtain ⟨q, rfl⟩ : ∃ q, j = q + 1 := ⟨j - 1, by omega⟩
     obtain rfl : x = (q : Int) := by omega
     have hq : q ≤ 3 := by omega
     clear hx
     have hcell := hW'.1
     have hfr := hW'.2.1
     have hbl := hW'.2.2.1
     have HW2 := Hd hW'
     have HE2 := Hd hE'
     have HT2 := Hd hT'
     have HL2 := Hd hLi'
     have hne : some b ≠ u'.ownBlock := fun e => by have := (hW'.row b e.symm).1; omega
     have HN := Hd hne
     clear hW' hE' hT' hLi' hne
     have m1 : IntKind.i64.wrap (8 * (q : Int)) = 8 * (q : Int) := wrapI _ (by omega) (by omega)
     have m2 := wrapB n q
     have p0 : 0 ≤ 8 * (q : Int) := by omega
     have p1 : 8 * (q : Int) ≤ 64 := by omega
     go_wp2_with fail
     go_region_law (refine step_append_lies _ (by rfl) _ _ _ (by rfl) (b + 1) 5 i0 _ 1 1 Tryz.underlying80 hi hz0 hz1 hz2 rfl (by omega) u' zs.length (zs.map (Value.int .u8)) (by rfl) (((uh HW2).alloc _).drew).2.2.2.1 ⟨wr.heap.size, 0, none⟩ 1 1 [_] (by rfl) (by rfl) (World.news_of_block (cs := #[_]) (t := 5) (fr := (0, 0)) (heap_alloc_new wr _)) (by simp [Value.oneCell']) (by omega) (by unfold maxLen; omega) (by omega) (by simp; omega) (wr.heap.size + 1) (by simp) ?_; intro gg capg w1 hown1 hgrow hat hlt1; have hc1 : w1.cell? ⟨b, 0, none⟩ = some u' := (hgrow.cell_far ⟨b, 0, none⟩ (by simp; omega) (uh HN)).trans (((uh HW2).alloc _).drew).1; have hf1 : w1.frozen? ⟨b, 0, none⟩ = false := (hgrow.frozen_far ⟨b, 0, none⟩ (by simp; omega) (uh HN)).trans (((uh HW2).alloc _).drew).2.1)
     all_goals
      have hx0 : 0 ≤ n / 256 ^ q % 256 := by omega
      have hx1 : n / 256 ^ q % 256 ≤ 255 := by omega
      have R := Hd ((uh HW2).pushed hown1 hgrow hat hx0 hx1)
      have hE2 : Hid ((zs ++ [n / 256 ^ q % 256]) ++ encN n q = ys ++ encN n m) := Hd (by rw [List.append_assoc]; exact uh HE2)
      clear hown1 hgrow hat hlt1 hc1 hf1 m2
      generalize n / 256 ^ q % 256 = y at *
      go_wp2_with fail
      go_roundw
      case rel => exact ⟨q, _, _, by omega, ⟨_, rfl, rfl⟩, (uh R).1, uh hE2, (uh HT2).wr (uh HL2) (uh R).2.1, (uh HL2).trans (uh R).2.2 (uh HT2).size⟩
      case measure => simp [intOf]
    ·obtain rfl : j = 0 := by omega
     obtain rfl : x = -1 := by omega
     have hE3 := Hd (by have := hE'; simp only [encN, List.append_nil] at this; exact this)
     have R := Hd (And.intro hW' (And.intro hT' hLi'))
     clear hW' hE' hT' hLi' hx
     go_wp2_with fail
     go_roundw
     case rel => exact ⟨k + 1, u', zs, by omega, by go_num, (uh R).1, by rw [uh hE3, List.append_assoc, ← uh HD]; exact (uh HR2).2.1, (uh R).2.1, (uh R).2.2⟩
     case measure => simp [intOf]; omega
  ·obtain rfl : k = ns.length := by omega
   have R := Hd (And.intro hW (And.intro hE (And.intro hT hLi)))
   clear hW hE hT hLi
   go_wp2_with fail
   go_end0
   refine ⟨rfl, u, ?_, (uh R).2.2.1, (uh R).2.2.2⟩
   have e := (uh R).2.1
   rw [List.drop_length] at e
   simp only [encAll, List.append_nil] at e
   rw [← e]; exact (uh R).1
end Go.Proofs.YtbchnheinnileaaGreatDoor
