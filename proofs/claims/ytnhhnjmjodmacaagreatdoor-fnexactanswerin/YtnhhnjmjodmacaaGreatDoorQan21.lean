/- The specification's l07Insert, whole. -/
import Derived.Test.YtnhhnjmjodmacaaGreatDoorQan20
import Derived.Deep.RegionLaw
namespace Go.Proofs.YtnhhnjmjodmacaaGreatDoor.Sha
open Go.ChangeShapes Go.WideShapes Go.ChangeAt Go.RowKit
set_option linter.unusedVariables false
set_option linter.unusedSimpArgs false
set_option maxRecDepth 100000 in
set_option maxHeartbeats 4000000 in
theorem l07Insert_leaf (k v h k' v' : ByteArray) (B0 : Nat) (kv : Value) (w : World) (hB : Brs (fun x => x < B0) w kv []) :
    Calls Tryz.prog 110 #[.agg #[.string k', .string v', .int .i64 256, kv], .string h, .int .i64 256, .agg #[.string k, .string v, .int .i64 256, .slice none 0 0]] w fun e w' => DrR B0 (Tr.leaf k v).toBr w e w' := by
  obtain ⟨sa, cap, rfl, hcap, hcm⟩ := hB.shape
  have HLF := hide (fun wx => l07Leaf_any k' v' 256 sa 0 cap wx (by unfold maxLen; omega))
  rw [show decide ((0 : Nat) = 0) = true from rfl] at HLF
  dsimp only [List.length_nil] at hB ⊢
  have HGR : Hid (∀ w', Below w.heap.size w w' → DrR B0 (Tr.leaf k v).toBr w (.returned (.agg #[.string k, .string v, .int .i64 256, .slice none 0 0])) w') := hide (fun w' hb => ⟨none, 0, 0, rfl, .nil _ _ (by unfold maxLen; omega), hb⟩)
  have B1 := hide ((((Below.refl w.heap.size w).alloc (Nat.le_refl _) (.cells #[.string k', .string v', .int .i64 256, .slice sa 0 cap] 35)).alloc (by simp) (.cells #[.string k, .string v, .int .i64 256, .slice none 0 0] 35)).alloc (by simp; omega) (.cells #[.string ⟨#[]⟩, .string ⟨#[]⟩, .int .i64 0, .slice none 0 0] 35))
  have L1 := hide ((Blk.new (w.alloc (.cells #[.string k', .string v', .int .i64 256, .slice sa 0 cap] 35)) #[.string k, .string v, .int .i64 256, .slice none 0 0] 35 (w.heap.size + 1) (by simp)).alloc (.cells #[.string ⟨#[]⟩, .string ⟨#[]⟩, .int .i64 0, .slice none 0 0] 35))
  have R1 := hide (Blk.new ((w.alloc (.cells #[.string k', .string v', .int .i64 256, .slice sa 0 cap] 35)).alloc (.cells #[.string k, .string v, .int .i64 256, .slice none 0 0] 35)) #[.string ⟨#[]⟩, .string ⟨#[]⟩, .int .i64 0, .slice none 0 0] 35 (w.heap.size + 1 + 1) (by simp))
  have HRS := hide (show w.heap.size < w.heap.size + 1 + 1 by omega)
  clear hB
  go_enter Tryz.func110, Tryz.ntmps110
  go_wp2_with fail
  generalize ((w.alloc (.cells #[.string k', .string v', .int .i64 256, .slice sa 0 cap] 35)).alloc (.cells #[.string k, .string v, .int .i64 256, .slice none 0 0] 35)).alloc (.cells #[.string ⟨#[]⟩, .string ⟨#[]⟩, .int .i64 0, .slice none 0 0] 35) = w1 at *
  generalize w.heap.size + 1 + 1 = R at *
  generalize w.heap.size + 1 = L at *
  refine (unhide HLF w1).mono ?_
  rintro e w2 ⟨rfl, hb2⟩
  have B2 := hide ((unhide B1).trans (hb2.mono (unhide B1).size))
  have R2 := hide ((unhide R1).below hb2)
  have L2 := (unhide L1).below hb2
  have l0 := L2.cell 0 rfl
  have l1 := L2.cell 1 rfl
  have l2 := L2.cell 2 rfl
  have l3 := L2.cell 3 rfl
  clear hb2 B1 R1 L1 L2
  have r0 := (unhide R2).cell 0 rfl
  have r1 := (unhide R2).cell 1 rfl
  have r2 := (unhide R2).cell 2 rfl
  have r3 := (unhide R2).cell 3 rfl
  have f0 := (unhide R2).fro 0
  have f1 := (unhide R2).fro 1
  have f2 := (unhide R2).fro 2
  have f3 := (unhide R2).fro 3
  have hZ := set4_blk (unhide R2) (.string k) (.string v) (.int .i64 256) (.slice none 0 0)
  have z0 := hZ.cell 0 rfl
  have z1 := hZ.cell 1 rfl
  have z2 := hZ.cell 2 rfl
  have z3 := hZ.cell 3 rfl
  have HT4 := hide (set4_touch w2 R (.string k) (.string v) (.int .i64 256) (.slice none 0 0))
  have HBF := hide ((unhide B2).trans ((unhide HT4).below (unhide B2).size (fun q hq e => by have := (unhide HRS); omega)))
  unfold set4 at z0 z1 z2 z3
  clear hZ
  go_wp2_with fail
  refine bodyPost_ret (v := .agg #[.string k, .string v, .int .i64 256, .slice none 0 0]) (by simp [results, Tryz.results110, go_sem, z0, z1, z2, z3]) rfl ?_
  exact unhide HGR _ (unhide HBF)
/-- The fork with its kid changed. -/
def replT (kb a : Nat) (hv : ByteArray) (l r t' : Tr) : Tr := if kb = 0 then .fork a hv t' r else .fork a hv l t'
set_option maxRecDepth 100000 in
set_option maxHeartbeats 8000000 in
theorem l07Insert_any (k v h : ByteArray) (hh : h.size = 32) (at_ : Nat) (hat0 : at_ ≤ 256) (hkv : TrOK (.leaf k v)) : ∀ (t : Tr), TrOK t → ∀ (m : Nat), Rise m t → Sep t → at_ = fd (kh (leadL h t).1) h → ∀ (B0 : Nat) (kv : Value) (w : World), B0 ≤ w.heap.size → Brs (fun x => x < B0) w kv t.toBr.kids →
    Calls Tryz.prog 110 #[.agg #[.string t.toBr.key, .string t.toBr.val, .int .i64 t.toBr.at_, kv], .string h, .int .i64 at_, .agg #[.string k, .string v, .int .i64 256, .slice none 0 0]] w fun e w' => DrR B0 (putT h at_ k v t).toBr w e w' := by
  intro t
  induction t with
  | leaf k' v' =>
    intro hok m hr hs hfd B0 kv w hB0 hB
    by_cases h256 : at_ = 256
    · subst h256
      have := l07Insert_leaf k v h k' v' B0 kv w hB
      unfold putT
      rw [if_pos rfl]
      exact this
    · have := l07Insert_build k v h hh at_ (by omega) hkv (.leaf k' v') hok (.inl rfl) B0 kv w hB0 hB
      unfold putT
      rw [if_neg h256]
      exact this
  | fork a hv l r ihl ihr =>
    intro hok m hr hs hfd B0 kv w hB0 hB
    have hne : at_ ≠ a := fun e => by
      have h1 := ((fd_iff (kh (leadL h (.fork a hv l r)).1) h at_ (by have := hr.2.1; omega)).1 hfd.symm).2
      rw [e] at h1
      exact h1 (lead_bit h hr hs)
    by_cases hlt : a < at_
    · obtain ⟨ha, ho9, okl, okr⟩ := hok
      obtain ⟨r0, r1, r2, r3⟩ := hr
      obtain ⟨q1, q2, q3, sl, sr⟩ := hs
      obtain ⟨sa, cap, rfl, hcap, hcm⟩ := hB.shape
      have hkm := hcm
      obtain ⟨kb, tn, hkb, hb2, HDT, okn, hgn, IH⟩ : ∃ (kb : Nat) (tn : Tr), bitN h a = kb ∧ kb < 2 ∧ Hid (putT h at_ k v (.fork a hv l r) = replT kb a hv l r (putT h at_ k v tn)) ∧ TrOK tn ∧ ([l.toBr, r.toBr] : List Br).getD kb default = tn.toBr ∧
          Hid (∀ (B0 : Nat) (kv : Value) (w : World), B0 ≤ w.heap.size → Brs (fun x => x < B0) w kv tn.toBr.kids → Calls Tryz.prog 110 #[.agg #[.string tn.toBr.key, .string tn.toBr.val, .int .i64 tn.toBr.at_, kv], .string h, .int .i64 at_, .agg #[.string k, .string v, .int .i64 256, .slice none 0 0]] w fun e w' => DrR B0 (putT h at_ k v tn).toBr w e w') := by
        rcases bitN_01 h a with hb | hb
        · exact ⟨0, l, hb, by omega, hide (by conv => lhs; unfold putT; rw [if_pos hlt, if_pos hb]
                                              rfl), okl, rfl, hide (ihl okl _ r2 sl (by rw [hfd]; conv => lhs; unfold leadL; rw [if_pos hb]))⟩
        · exact ⟨1, r, hb, by omega, hide (by conv => lhs; unfold putT; rw [if_pos hlt, if_neg (by omega)]
                                              rfl), okr, rfl, hide (ihr okr _ r3 sr (by rw [hfd]; conv => lhs; unfold leadL; rw [if_neg (by omega)]))⟩
      clear ihl ihr hfd hne q1 q2 q3 sl sr r0 r2 r3 ho9
      rw [unhide HDT]
      have HOT : Hid (TrOK (putT h at_ k v tn)) := hide (putT_ok h at_ k v hat0 hh hkv.1 hkv.2 tn okn)
      generalize putT h at_ k v tn = t' at *
      have HGR : Hid (∀ sa n cap w', Brs (fun x => x < B0 ∨ w.heap.size ≤ x) w' (.slice sa n cap) (replT kb a hv l r t').toBr.kids → Below w.heap.size w w' → DrR B0 (replT kb a hv l r t').toBr w (.returned (.agg #[.string (replT kb a hv l r t').toBr.key, .string (replT kb a hv l r t').toBr.val, .int .i64 (replT kb a hv l r t').toBr.at_, .slice sa n cap])) w') := hide (fun sa n cap w' h1 hb => ⟨sa, n, cap, rfl, h1, hb⟩)
      dsimp only [Tr.toBr, Br.key, Br.val, Br.at_, Br.kids] at hB hcap ⊢
      rw [show ([l.toBr, r.toBr] : List Br).length = 2 from rfl] at hB hcap ⊢
      obtain ⟨bb, off, kvf, rfl, _, hat⟩ := hB.at (by simp)
      have hbb := hat.lt
      obtain ⟨d0, d1, d2, d3⟩ := hat.cells kb (by simpa using hb2)
      have KN := hide (hat.kids kb (by simpa using hb2))
      rw [hgn] at d0 d1 d2 KN
      obtain ⟨kan, kcn, hkvn, _, hknm⟩ := (unhide KN).shape
      rw [hkvn] at KN d3
      have HLF := hide (fun wx => l07Leaf_any ⟨#[]⟩ ⟨#[]⟩ a (some ⟨bb, off, none⟩) 2 cap wx (by unfold maxLen at hkm ⊢; omega))
      rw [show decide ((2 : Nat) = 0) = false from rfl] at HLF
      have HBT := hide (fun wx => l07Bit_any h a wx hh r1)
      rw [hkb] at HBT
      have B1 := hide ((((Below.refl w.heap.size w).alloc (Nat.le_refl _) (.cells #[.string ⟨#[]⟩, .string ⟨#[]⟩, .int .i64 a, .slice (some ⟨bb, off, none⟩) 2 cap] 35)).alloc (by simp) (.cells #[.string k, .string v, .int .i64 256, .slice none 0 0] 35)).alloc (by simp; omega) (.cells #[.string ⟨#[]⟩, .string ⟨#[]⟩, .int .i64 0, .slice none 0 0] 35))
      have X1 := hide (((Blk.new w #[.string ⟨#[]⟩, .string ⟨#[]⟩, .int .i64 a, .slice (some ⟨bb, off, none⟩) 2 cap] 35 w.heap.size rfl).alloc (.cells #[.string k, .string v, .int .i64 256, .slice none 0 0] 35)).alloc (.cells #[.string ⟨#[]⟩, .string ⟨#[]⟩, .int .i64 0, .slice none 0 0] 35))
      have L1 := hide ((Blk.new (w.alloc (.cells #[.string ⟨#[]⟩, .string ⟨#[]⟩, .int .i64 a, .slice (some ⟨bb, off, none⟩) 2 cap] 35)) #[.string k, .string v, .int .i64 256, .slice none 0 0] 35 (w.heap.size + 1) (by simp)).alloc (.cells #[.string ⟨#[]⟩, .string ⟨#[]⟩, .int .i64 0, .slice none 0 0] 35))
      have R1 := hide (Blk.new ((w.alloc (.cells #[.string ⟨#[]⟩, .string ⟨#[]⟩, .int .i64 a, .slice (some ⟨bb, off, none⟩) 2 cap] 35)).alloc (.cells #[.string k, .string v, .int .i64 256, .slice none 0 0] 35)) #[.string ⟨#[]⟩, .string ⟨#[]⟩, .int .i64 0, .slice none 0 0] 35 (w.heap.size + 1 + 1) (by simp))
      have HRS := hide (show w.heap.size < w.heap.size + 1 + 1 ∧ w.heap.size < w.heap.size + 1 by omega)
      have HAT := hide hat
      have hgt : ¬ (at_ : Int) < (a : Int) := by omega
      clear hB hat hkvn hkb hgn HDT
      go_enter Tryz.func110, Tryz.ntmps110
      go_upto_region 1 with fail
      generalize ((w.alloc (.cells #[.string ⟨#[]⟩, .string ⟨#[]⟩, .int .i64 a, .slice (some ⟨bb, off, none⟩) 2 cap] 35)).alloc (.cells #[.string k, .string v, .int .i64 256, .slice none 0 0] 35)).alloc (.cells #[.string ⟨#[]⟩, .string ⟨#[]⟩, .int .i64 0, .slice none 0 0] 35) = w1 at *
      generalize w.heap.size + 1 + 1 = R at *
      generalize w.heap.size + 1 = L at *
      have x0 := (unhide X1).cell 0 rfl
      have x1 := (unhide X1).cell 1 rfl
      have x2 := (unhide X1).cell 2 rfl
      have x3 := (unhide X1).cell 3 rfl
      go_cut [16] (fun s wx => s = .bool false ∧ Below w1.heap.size w1 wx)
      case first =>
        by_cases h256 : at_ = 256
        · subst h256
          go_wp2_with fail
          refine (unhide HLF w1).mono ?_
          rintro e w2 ⟨rfl, hb2'⟩
          have HB2 := hide hb2'
          clear hb2'
          go_wp2_with fail
          go_meet
          exact ⟨rfl, unhide HB2⟩
        · have h2 : ((at_ : Int) == 256) = false := by rw [beq_eq_false_iff_ne]; omega
          go_wp2_with fail
          go_meet
          exact ⟨rfl, Below.refl _ _⟩
      case rest =>
        obtain ⟨rfl, hbc⟩ := hcut
        obtain ⟨w2, hw2⟩ : ∃ w2, w2 = wc := ⟨_, rfl⟩
        subst hw2
        have B2 := hide ((unhide B1).trans (hbc.mono (unhide B1).size))
        have X2 := hide ((unhide X1).below hbc)
        have L2 := hide ((unhide L1).below hbc)
        have R2 := hide ((unhide R1).below hbc)
        clear x0 x1 x2 x3 hbc B1 X1 L1 R1
        have x0 := (unhide X2).cell 0 rfl
        have x1 := (unhide X2).cell 1 rfl
        have x2 := (unhide X2).cell 2 rfl
        have x3 := (unhide X2).cell 3 rfl
        go_wp2_with fail
        refine (unhide HLF w2).mono ?_
        rintro e w3 ⟨rfl, hb3⟩
        have B3 := hide ((unhide B2).trans (hb3.mono (unhide B2).size))
        have X3 := hide ((unhide X2).below hb3)
        have L3 := hide ((unhide L2).below hb3)
        have R3 := hide ((unhide R2).below hb3)
        clear hb3 B2 X2 L2 R2 HLF x0 x1 x2 x3
        have x2 := (unhide X3).cell 2 rfl
        go_wp2_with fail
        refine (unhide HBT w3).mono ?_
        rintro e w9 ⟨rfl, hw9⟩
        subst w9
        have m0 : (0 : Int) ≤ (kb : Int) := by omega
        have m1 : (kb : Int) < 2 := by omega
        obtain ⟨ka0, kc0, hk0, _, _⟩ := ((unhide HAT).kids 0 (by simp)).shape
        obtain ⟨ka1, kc1, hk1, _, _⟩ := ((unhide HAT).kids 1 (by simp)).shape
        have BB := (Below.refl w3.heap.size w3).alloc (Nat.le_refl _) (.cells #[] 35)
        have B5 := hide ((unhide B3).trans (BB.mono (unhide B3).size))
        have X5 := hide ((unhide X3).below BB)
        have L5 := hide ((unhide L3).below BB)
        have R5 := hide ((unhide R3).below BB)
        have O5 : Hid ((w3.alloc (.cells #[] 35)).ownsRow w3.heap.size 35 4 (.slice (some ⟨w3.heap.size, 0, none⟩) 0 0) 0 []) := hide (World.ownsRow_made w3 #[] 0 (Nat.le_refl _) (by unfold maxLen; omega) rfl)
        have HRW := hide (row2_rw (cap := cap) (unhide HAT) (unhide B5))
        have H1C : Hid (∀ u ∈ row2 l.toBr r.toBr (kvf 0) (kvf 1), u.oneCell' = true) := hide (by rw [hk0, hk1]; exact row2_one)
        have x35 := (unhide X5).cell 3 rfl
        have hE5 : (w3.alloc (.cells #[] 35)).heap.size = w3.heap.size + 1 := by simp
        obtain ⟨i0, hi, hz0, hz1, hz2⟩ := info_parts infoBr
        have hw4 := (unhide B3).size
        have hX4' : w.heap.size < w3.heap.size := (unhide X3).1
        have hL4' : L < w3.heap.size := (unhide L3).1
        have hR4' : R < w3.heap.size := (unhide R3).1
        clear BB X3 R3 B3 L3 x2 hk0 hk1
        go_upto_region 9 with (at_builtin; refine wpList_append_row _ rfl _ _ _ rfl w3.heap.size 35 i0 _ 4 64 Tryz.underlying33 hi hz0 hz1 hz2 rfl (by omega) _ 0 [] rfl (unhide O5) _ 2 (row2 l.toBr r.toBr (kvf 0) (kvf 1)) rfl (unhide HRW) rfl (unhide H1C) (by unfold maxLen; omega) (by omega) (by omega) ?_; intro a6 c6 w6 hown6 hgrow6 hat6; have R6' := hide (And.intro hown6 (And.intro hgrow6 hat6)); clear hown6 hgrow6 hat6)
        obtain ⟨hown6, hgrow6, hat6⟩ := unhide R6'
        obtain ⟨g6, c6', he6, hg6, hg6'⟩ := World.ownsRow.form hown6 (by omega)
        cases he6
        rw [List.nil_append] at hown6
        have B6 := hide (grown6 (unhide B5) hgrow6 hw4)
        have T6 : Touch (fun q => q = w3.heap.size) _ w6 := grownT hgrow6
        have X6 := hide ((unhide X5).kept T6 (fun e => by have e' : w.heap.size = w3.heap.size := e; omega))
        have L6 := hide ((unhide L5).kept T6 (fun e => by have e' : L = w3.heap.size := e; omega))
        have R6 := hide ((unhide R5).kept T6 (fun e => by have e' : R = w3.heap.size := e; omega))
        have O6 := hide hown6
        have x36 := (unhide X6).cell 3 rfl
        have l60 := (unhide L6).cell 0 rfl
        have l61 := (unhide L6).cell 1 rfl
        have l62 := (unhide L6).cell 2 rfl
        have l63 := (unhide L6).cell 3 rfl
        have t0 := ((unhide B6).cell (p := ⟨bb, off + kb * 4, none⟩) hbb).trans d0
        have t1 := ((unhide B6).cell (p := ⟨bb, off + kb * 4 + 1, none⟩) hbb).trans d1
        have t2 := ((unhide B6).cell (p := ⟨bb, off + kb * 4 + 2, none⟩) hbb).trans d2
        have t3 := ((unhide B6).cell (p := ⟨bb, off + kb * 4 + 3, none⟩) hbb).trans d3
        clear hown6 hgrow6 hat6 T6 R6' X5 R5 L5 B5 O5 HRW H1C x35
        have HIH := hide (fun wx (hbx : Below w6.heap.size w6 wx) => unhide IH B0 _ wx (Nat.le_trans hB0 ((unhide B6).trans (hbx.mono (unhide B6).size)).size) ((unhide KN).blw ((unhide B6).trans (hbx.mono (unhide B6).size))))
        have HE4 : Hid (∃ e0 e1 e2 e3, (row2 l.toBr r.toBr (kvf 0) (kvf 1))[kb * 4]? = some e0 ∧ (row2 l.toBr r.toBr (kvf 0) (kvf 1))[kb * 4 + 1]? = some e1 ∧ (row2 l.toBr r.toBr (kvf 0) (kvf 1))[kb * 4 + 2]? = some e2 ∧ (row2 l.toBr r.toBr (kvf 0) (kvf 1))[kb * 4 + 3]? = some e3) := hide ⟨_, _, _, _, List.getElem?_eq_getElem (by simp [row2]; omega), List.getElem?_eq_getElem (by simp [row2]; omega), List.getElem?_eq_getElem (by simp [row2]; omega), List.getElem?_eq_getElem (by simp [row2]; omega)⟩
        obtain ⟨e0, e1, e2, e3, he0, he1, he2, he3⟩ := unhide HE4
        have HST : Hid (∀ w7, Below w6.heap.size w6 w7 → (w7.cell? ⟨g6, kb * 4, none⟩ = some e0 ∧ w7.cell? ⟨g6, kb * 4 + 1, none⟩ = some e1 ∧ w7.cell? ⟨g6, kb * 4 + 2, none⟩ = some e2 ∧ w7.cell? ⟨g6, kb * 4 + 3, none⟩ = some e3) ∧ (w7.frozen? ⟨g6, kb * 4, none⟩ = false ∧ w7.frozen? ⟨g6, kb * 4 + 1, none⟩ = false ∧ w7.frozen? ⟨g6, kb * 4 + 2, none⟩ = false ∧ w7.frozen? ⟨g6, kb * 4 + 3, none⟩ = false)) := hide (fun w7 hb7 => by
          have O7 := own_kept (T := fun _ => False) (unhide O6) (Touch.ofBelow hb7) (fun _ _ h => h)
          exact ⟨⟨(O7.cellAt (kb * 4) (by omega)).trans he0, (O7.cellAt (kb * 4 + 1) (by omega)).trans he1, (O7.cellAt (kb * 4 + 2) (by omega)).trans he2, (O7.cellAt (kb * 4 + 3) (by omega)).trans he3⟩, O7.frozenAt (kb * 4), O7.frozenAt (kb * 4 + 1), O7.frozenAt (kb * 4 + 2), O7.frozenAt (kb * 4 + 3)⟩)
        clear he0 he1 he2 he3
        go_cut [] (fun wx => ∃ (w7 : World) (s7 : Option Addr) (n7 c7 : Nat), Brs (fun x => x < B0 ∨ w6.heap.size ≤ x) w7 (.slice s7 n7 c7) t'.toBr.kids ∧ Below w6.heap.size w6 w7 ∧ wx = (((w7.setCell ⟨g6, kb * 4, none⟩ (.string t'.toBr.key)).setCell ⟨g6, kb * 4 + 1, none⟩ (.string t'.toBr.val)).setCell ⟨g6, kb * 4 + 2, none⟩ (.int .i64 t'.toBr.at_)).setCell ⟨g6, kb * 4 + 3, none⟩ (.slice s7 n7 c7))
        case first =>
          go_wp2_with fail
          go_region_law ((go_simp; go_at_call 110; refine (unhide HIH _ (below_drewN (Below.refl _ _) 1)).mono ?_; rintro e w7 ⟨s7, n7, c7, rfl, hBr7, hb7⟩; (have HB7 := hide (And.intro hBr7 ((below_drewN (Below.refl w6.heap.size w6) 1).trans hb7))); clear hBr7 hb7; (obtain ⟨⟨g0, g1, g2, g3⟩, i0', i1', i2', i3'⟩ := unhide HST w7 (unhide HB7).2); go_simp))
          all_goals
            go_wp2_with fail
            go_meet
            exact ⟨w7, s7, n7, c7, (unhide HB7).1, (unhide HB7).2, rfl⟩
        case rest =>
          obtain ⟨w7, s7, n7, c7, hBr7, hb7, hwc⟩ := hcut
          have O7 := own_kept (T := fun _ => False) (unhide O6) (Touch.ofBelow hb7) (fun _ _ h => h)
          have B7 := (unhide B6).trans (hb7.mono (unhide B6).size)
          have hz67 := hb7.size
          have X7 := (unhide X6).below hb7
          have R7 := (unhide R6).below hb7
          have O8 := (((O7.stored (kb * 4) (.string t'.toBr.key)).1.stored (kb * 4 + 1) (.string t'.toBr.val)).1.stored (kb * 4 + 2) (.int .i64 t'.toBr.at_)).1.stored (kb * 4 + 3) (.slice s7 n7 c7) |>.1
          have T8 : Touch (fun q => q = g6) w7 ((((w7.setCell ⟨g6, kb * 4, none⟩ (.string t'.toBr.key)).setCell ⟨g6, kb * 4 + 1, none⟩ (.string t'.toBr.val)).setCell ⟨g6, kb * 4 + 2, none⟩ (.int .i64 t'.toBr.at_)).setCell ⟨g6, kb * 4 + 3, none⟩ (.slice s7 n7 c7)) :=
            ((((Touch.refl (fun q => q = g6) w7).setCell ⟨g6, kb * 4, none⟩ _ (fun _ => rfl)).setCell ⟨g6, kb * 4 + 1, none⟩ _ (fun _ => rfl)).setCell ⟨g6, kb * 4 + 2, none⟩ _ (fun _ => rfl)).setCell ⟨g6, kb * 4 + 3, none⟩ _ (fun _ => rfl)
          rw [← hwc] at O8 T8
          have X8 := hide (X7.kept T8 (fun e => by have e' : w.heap.size = g6 := e; omega))
          have R8 := hide (R7.kept T8 (fun e => by have e' : R = g6 := e; omega))
          have B8 := hide (B7.trans (T8.below B7.size (fun q hq e => by have e' : q = g6 := e; omega)))
          have HBr8 := hide (hBr7.touch T8 (fun q hq e => by have e' : q = g6 := e; omega))
          have HO8 := hide O8
          clear O7 O8 T8 B7 X7 R7 hBr7 hb7 hwc X6 R6 L6 B6 O6 x36 l60 l61 l62 l63 t0 t1 t2 t3 HIH HST HE4
          obtain ⟨w8, hw8⟩ : ∃ w8, w8 = wc := ⟨_, rfl⟩
          subst hw8
          have x28 := (unhide X8).cell 2 rfl
          have r0' := (unhide R8).cell 0 rfl
          have r1' := (unhide R8).cell 1 rfl
          have r2' := (unhide R8).cell 2 rfl
          have r3' := (unhide R8).cell 3 rfl
          have f0 := (unhide R8).fro 0
          have f1 := (unhide R8).fro 1
          have f2 := (unhide R8).fro 2
          have f3 := (unhide R8).fro 3
          have hZ := set4_blk (unhide R8) (.string ⟨#[]⟩) (.string ⟨#[]⟩) (.int .i64 a) (.slice (some ⟨g6, 0, none⟩) 2 c6)
          have z0 := hZ.cell 0 rfl
          have z1 := hZ.cell 1 rfl
          have z2 := hZ.cell 2 rfl
          have z3 := hZ.cell 3 rfl
          have HT4 := hide (set4_touch w8 R (.string ⟨#[]⟩) (.string ⟨#[]⟩) (.int .i64 a) (.slice (some ⟨g6, 0, none⟩) 2 c6))
          have HBF := hide ((unhide B8).trans ((unhide HT4).below (unhide B8).size (fun q hq e => by have := (unhide HRS); omega)))
          unfold set4 at z0 z1 z2 z3
          clear hZ
          go_wp2_with fail
          refine bodyPost_ret (v := .agg #[.string ⟨#[]⟩, .string ⟨#[]⟩, .int .i64 a, .slice (some ⟨g6, 0, none⟩) 2 c6]) (by simp [results, Tryz.results110, go_sem, z0, z1, z2, z3]) rfl ?_
          have hrs := unhide HRS
          have O9 := own_kept (unhide HO8) (unhide HT4) (fun q hq e => by
            have e1 : g6 = q := by simpa [Value.ownBlock] using hq
            have e2 : q = R := e
            omega)
          have K9 := ((unhide HBr8).touch (unhide HT4) (fun q hq e => by have e2 : q = R := e; omega)).mono (T := fun x => x < B0 ∨ w.heap.size ≤ x) (fun x hx => by omega)
          have zt := toBr_small (unhide HOT)
          have zl := toBr_small okl
          have zr := toBr_small okr
          have L0' := (((unhide HAT).kids 0 (by simp)).mono (T := fun x => x < B0 ∨ w.heap.size ≤ x) (fun x hx => .inl hx)).blw (unhide HBF)
          have L1' := (((unhide HAT).kids 1 (by simp)).mono (T := fun x => x < B0 ∨ w.heap.size ≤ x) (fun x hx => .inl hx)).blw (unhide HBF)
          rcases (show kb = 0 ∨ kb = 1 by omega) with hk | hk
          · subst hk
            exact unhide HGR (some ⟨g6, 0, none⟩) 2 c6 _ (brs_two (b0 := t'.toBr) (b1 := r.toBr) (v0 := .slice s7 n7 c7) (v1 := kvf 1) O9 zt zr K9 L1' (.inr (by omega))) (unhide HBF)
          · subst hk
            exact unhide HGR (some ⟨g6, 0, none⟩) 2 c6 _ (brs_two (b0 := l.toBr) (b1 := t'.toBr) (v0 := kvf 0) (v1 := .slice s7 n7 c7) O9 zl zt L0' K9 (.inr (by omega))) (unhide HBF)
    · have := l07Insert_build k v h hh at_ (by have := hr.2.1; omega) hkv (.fork a hv l r) hok (.inr (by show (at_ : Int) < (a : Int); omega)) B0 kv w hB0 hB
      unfold putT
      rw [if_neg hlt]
      exact this
end Go.Proofs.YtnhhnjmjodmacaaGreatDoor.Sha
