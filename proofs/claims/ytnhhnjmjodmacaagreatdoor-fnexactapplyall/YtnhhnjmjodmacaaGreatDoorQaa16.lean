/- What the proof of the claim needs (joined by program): BrW. -/
import Derived.Test.YtnhhnjmjodmacaaGreatDoorQaa11
import Derived.Deep.RegionHeldLaw
import Derived.Deep.RegionLaw
namespace Go.Proofs.YtnhhnjmjodmacaaGreatDoor.Sha
set_option maxRecDepth 100000
set_option maxHeartbeats 8000000
open Go.ChangeShapes Go.WideShapes Go.ChangeAt Go.RowKit
set_option linter.unusedVariables false
set_option linter.unusedSimpArgs false
def atCell2 (X : Nat) (w : World) : Nat := match w.cell? ⟨X, 2, none⟩ with
 | some (.int _ a) => a.toNat
 | _ => 0
theorem atCell2_is {X : Nat} {w : World} {a : Nat} (h : w.cell? ⟨X, 2, none⟩ = some (.int .i64 a)) : atCell2 X w = a := by
 unfold atCell2
 rw [h]
 simp
theorem toBr_at (t : Tr) : t.toBr.at_ = (t.at_ : Int) := by cases t <;> rfl
def GetR (o : Option Tr) (key : ByteArray) (w : World) (e : Ending) (w' : World) : Prop := ∃ (k v : ByteArray) (a : Int) (sa : Option Addr) (n cap : Nat) (fb : Bool), e = .returned (.tuple #[.agg #[.string k, .string v, .int .i64 a, .slice sa n cap], .bool fb]) ∧ Below w.heap.size w w' ∧
 match o with
 | none => fb = false
 | some t => v = (leadL (kh key) t).2 ∧ fb = decide ((leadL (kh key) t).1 = key)
theorem l07Get_any (o : Option Tr) (hok : OkO o) (hri : RiseO o) (key : ByteArray) (hk : key.size ≤ 24) (S : Nat → Prop) (kv : Value) (w : World) (hB : Brs S w kv (brOf o).kids) :
  Calls Tryz.prog 86 #[.agg #[.string (brOf o).key, .string (brOf o).val, .int .i64 (brOf o).at_, kv], .string key] w fun e w' => GetR o key w e w' := by
 obtain ⟨sa, cap, rfl, hcap, hcm⟩ := hB.shape
 have B1 := Hd ((bal w (.cells #[.string (brOf o).key, .string (brOf o).val, .int .i64 (brOf o).at_, .slice sa (brOf o).kids.length cap] 35)).alloc (by simp) (.cells #[.string ⟨#[]⟩, .string ⟨#[]⟩, .int .i64 0, .slice none 0 0] 35))
 have X1 := Hd ((Blk.new w #[.string (brOf o).key, .string (brOf o).val, .int .i64 (brOf o).at_, .slice sa (brOf o).kids.length cap] 35 w.heap.size rfl).alloc (.cells #[.string ⟨#[]⟩, .string ⟨#[]⟩, .int .i64 0, .slice none 0 0] 35))
 have R1 := Hd (Blk.new (w.alloc (.cells #[.string (brOf o).key, .string (brOf o).val, .int .i64 (brOf o).at_, .slice sa (brOf o).kids.length cap] 35)) #[.string ⟨#[]⟩, .string ⟨#[]⟩, .int .i64 0, .slice none 0 0] 35 (w.heap.size + 1) (by simp))
 have HE := Hd (fun wx => l07Empty_any (brOf o).key (brOf o).val (brOf o).at_ (brOf o).kids sa cap wx (by omega))
 have e9 : Br.mk (brOf o).key (brOf o).val (brOf o).at_ (brOf o).kids = brOf o := by cases brOf o; rfl
 rw [e9] at HE
 clear e9
 have HKB := Hd hB.bound
 have HHS := Hd (fun wx => l07Hash_any key wx (by omega))
 have hks := kh_size (k := key) (by omega)
 clear hB
 cases o with
 | none =>
  have he : emptyBr (brOf none) = true := (empty_iff _ _ _ _).2 ⟨rfl, rfl, rfl, rfl⟩
  rw [he] at HE
  dsimp only [brOf, Br.key, Br.val, Br.at_, Br.kids, List.length_nil] at *
  clear he HKB HHS
  go_enter Tryz.func86, Tryz.ntmps86
  go_wp2_with fail
  generalize (w.alloc (.cells #[.string ⟨#[]⟩, .string ⟨#[]⟩, .int .i64 0, .slice sa 0 cap] 35)).alloc (.cells #[.string ⟨#[]⟩, .string ⟨#[]⟩, .int .i64 0, .slice none 0 0] 35) = w1 at *
  refine (uh HE w1).mono ?_
  rintro e w2 ⟨rfl, hb2⟩
  have B2 := hbt B1 hb2
  have X2 := Hd ((uh X1).below hb2)
  have R2 := Hd ((uh R1).below hb2)
  clear hb2
  have x0 := (uh X2).cell 0 rfl
  have x1 := (uh X2).cell 1 rfl
  have x2 := (uh X2).cell 2 rfl
  have x3 := (uh X2).cell 3 rfl
  have y0 := (uh R2).cell 0 rfl
  have y1 := (uh R2).cell 1 rfl
  have y2 := (uh R2).cell 2 rfl
  have y3 := (uh R2).cell 3 rfl
  have f0 := (uh R2).fro 0
  have f1 := (uh R2).fro 1
  have f2 := (uh R2).fro 2
  have f3 := (uh R2).fro 3
  have R3 := Hd (((((uh R2).set 0 (.string ⟨#[]⟩) (by simp)).set 1 (.string ⟨#[]⟩) (by simp)).set 2 (.int .i64 0) (by simp)).set 3 (.slice sa 0 cap) (by simp))
  have B3 := Hd (((((uh B2).setCell (p := ⟨w.heap.size + 1, 0, none⟩) (by simp) (.string ⟨#[]⟩)).setCell (p := ⟨w.heap.size + 1, 1, none⟩) (by simp) (.string ⟨#[]⟩)).setCell (p := ⟨w.heap.size + 1, 2, none⟩) (by simp) (.int .i64 0)).setCell (p := ⟨w.heap.size + 1, 3, none⟩) (by simp) (.slice sa 0 cap))
  go_wp2_with fail
  have z0 := (uh R3).cell 0 rfl
  have z1 := (uh R3).cell 1 rfl
  have z2 := (uh R3).cell 2 rfl
  have z3 := (uh R3).cell 3 rfl
  refine bodyPost_ret (v := .tuple #[.agg #[.string ⟨#[]⟩, .string ⟨#[]⟩, .int .i64 0, .slice sa 0 cap], .bool false]) (by simp [results, Tryz.results86, go_sem, z0, z1, z2, z3]) rfl ?_
  exact ⟨_, _, _, _, _, _, _, rfl, uh B3, rfl⟩
 | some t =>
  rw [show emptyBr (brOf (some t)) = false from not_empty hok] at HE
  dsimp only [brOf] at *
  have HGR : Hid (∀ k v a sa n cap fb w', Below w.heap.size w w' → v = (leadL (kh key) t).2 → fb = decide ((leadL (kh key) t).1 = key) → GetR (some t) key w (.returned (.tuple #[.agg #[.string k, .string v, .int .i64 a, .slice sa n cap], .bool fb])) w') := Hd (fun k v a sa n cap fb w' hb h1 h2 => ⟨k, v, a, sa, n, cap, fb, rfl, hb, h1, h2⟩)
  have HOK := Hd hok
  have HRI := Hd hri
  have HT0 : Hid (∃ t0, t0 = t) := Hd ⟨t, rfl⟩
  clear hok hri
  go_enter Tryz.func86, Tryz.ntmps86
  go_wp2_with fail
  generalize (w.alloc (.cells #[.string t.toBr.key, .string t.toBr.val, .int .i64 t.toBr.at_, .slice sa t.toBr.kids.length cap] 35)).alloc (.cells #[.string ⟨#[]⟩, .string ⟨#[]⟩, .int .i64 0, .slice none 0 0] 35) = w1 at *
  refine (uh HE w1).mono ?_
  rintro e w2 ⟨rfl, hb2⟩
  have B2 := hbt B1 hb2
  have X2 := Hd ((uh X1).below hb2)
  have R2 := Hd ((uh R1).below hb2)
  clear hb2 B1 X1 R1 HE
  go_wp2_with fail
  refine (uh HHS w2).mono ?_
  rintro e w3 ⟨rfl, hb3⟩
  have B3 := hbt B2 hb3
  have X3 := Hd ((uh X2).below hb3)
  have R3 := Hd ((uh R2).below hb3)
  clear hb3 B2 X2 R2 HHS
  generalize kh key = h at *
  go_wp2_with fail
  go_loopw [] (fun wr => ∃ (m : Nat) (t' : Tr) (ka : Option Addr) (kc : Nat), Blk wr w.heap.size [.string t'.toBr.key, .string t'.toBr.val, .int .i64 t'.toBr.at_, .slice ka t'.toBr.kids.length kc] ∧ Brs (fun x => x < w.heap.size) w (.slice ka t'.toBr.kids.length kc) t'.toBr.kids ∧ Rise m t' ∧ TrOK t' ∧ leadL h t' = leadL h t ∧ Below w.heap.size w wr ∧ Blk wr (w.heap.size + 1) [.string ⟨#[]⟩, .string ⟨#[]⟩, .int .i64 0, .slice none 0 0]) (fun wr => 256 - atCell2 w.heap.size wr)
  case atStart => exact ⟨0, t, sa, cap, uh X3, uh HKB, uh HRI, uh HOK, rfl, uh B3, uh R3⟩
  case round =>
   clear HKB HRI HOK B3 X3 R3
   obtain ⟨m, t', ka, kc, hX, hKB, hRI, hOK, hL, hbw, hR⟩ := hrel
   obtain ⟨_, _, _, _, hkm⟩ := hKB.shape
   have HLF := Hd (fun wx => l07Leaf_any t'.toBr.key t'.toBr.val t'.toBr.at_ ka t'.toBr.kids.length kc wx (by unfold maxLen at hkm ⊢; have := hKB.shape; omega))
   have HX := Hd hX
   have x0 := hX.cell 0 rfl
   have x1 := hX.cell 1 rfl
   have x2 := hX.cell 2 rfl
   have x3 := hX.cell 3 rfl
   have HBW := Hd hbw
   have HRR := Hd hR
   have HL := Hd hL
   have HA := Hd (atCell2_is (X := w.heap.size) (w := wr) (a := t'.at_) (by rw [x2, toBr_at]))
   clear hX hbw hR hL
   cases t' with
   | leaf k v =>
    rw [show decide ((Tr.leaf k v).toBr.kids.length = 0) = true from rfl] at HLF
    dsimp only [Tr.toBr, Br.key, Br.val, Br.at_, Br.kids, List.length_nil] at HLF x0 x1 x2 x3 HX hKB
    have HLL : Hid (leadL h (.leaf k v) = (k, v)) := rfl
    go_wp2_with fail
    refine (uh HLF wr).mono ?_
    rintro e w4 ⟨rfl, hb4⟩
    have B4 := hbt HBW hb4
    have X4 := Hd ((uh HX).below hb4)
    have R4 := Hd ((uh HRR).below hb4)
    clear hb4 x0 x1 x2 x3 HX HBW HRR
    have x0 := (uh X4).cell 0 rfl
    have x1 := (uh X4).cell 1 rfl
    have x2 := (uh X4).cell 2 rfl
    have x3 := (uh X4).cell 3 rfl
    have y0 := (uh R4).cell 0 rfl
    have y1 := (uh R4).cell 1 rfl
    have y2 := (uh R4).cell 2 rfl
    have y3 := (uh R4).cell 3 rfl
    have f0 := (uh R4).fro 0
    have f1 := (uh R4).fro 1
    have f2 := (uh R4).fro 2
    have f3 := (uh R4).fro 3
    have HSX : Hid (∀ wx, Touch (fun b => b = w.heap.size + 1) w4 wx → wx.cell? ⟨w.heap.size, 0, none⟩ = some (.string k) ∧ wx.cell? ⟨w.heap.size, 1, none⟩ = some (.string v) ∧ wx.cell? ⟨w.heap.size, 2, none⟩ = some (.int .i64 256) ∧ wx.cell? ⟨w.heap.size, 3, none⟩ = some (.slice ka 0 kc)) := Hd (fun wx ht => by
     have X := (uh X4).kept ht (by omega)
     exact ⟨X.cell 0 rfl, X.cell 1 rfl, X.cell 2 rfl, X.cell 3 rfl⟩)
    have TS : Hid (Touch (fun b => b = w.heap.size + 1) w4 ((((w4.setCell ⟨w.heap.size + 1, 0, none⟩ (.string k)).setCell ⟨w.heap.size + 1, 1, none⟩ (.string v)).setCell ⟨w.heap.size + 1, 2, none⟩ (.int .i64 256)).setCell ⟨w.heap.size + 1, 3, none⟩ (.slice ka 0 kc)).drew) := Hd (((((Touch.refl (fun b => b = w.heap.size + 1) w4).setCell ⟨w.heap.size + 1, 0, none⟩ (.string k) (fun _ => rfl)).setCell ⟨w.heap.size + 1, 1, none⟩ (.string v) (fun _ => rfl)).setCell ⟨w.heap.size + 1, 2, none⟩ (.int .i64 256) (fun _ => rfl)).setCell ⟨w.heap.size + 1, 3, none⟩ (.slice ka 0 kc) (fun _ => rfl)).drew
    have R5 : Hid (Blk ((((w4.setCell ⟨w.heap.size + 1, 0, none⟩ (.string k)).setCell ⟨w.heap.size + 1, 1, none⟩ (.string v)).setCell ⟨w.heap.size + 1, 2, none⟩ (.int .i64 256)).setCell ⟨w.heap.size + 1, 3, none⟩ (.slice ka 0 kc)).drew (w.heap.size + 1) [.string k, .string v, .int .i64 256, .slice ka 0 kc]) := Hd ((((((uh R4).set 0 (.string k) (by simp)).set 1 (.string v) (by simp)).set 2 (.int .i64 256) (by simp)).set 3 (.slice ka 0 kc) (by simp)).drewN 1)
    have B5 : Hid (Below w.heap.size w ((((w4.setCell ⟨w.heap.size + 1, 0, none⟩ (.string k)).setCell ⟨w.heap.size + 1, 1, none⟩ (.string v)).setCell ⟨w.heap.size + 1, 2, none⟩ (.int .i64 256)).setCell ⟨w.heap.size + 1, 3, none⟩ (.slice ka 0 kc)).drew) := Hd (((((uh B4).setCell (p := ⟨w.heap.size + 1, 0, none⟩) (by simp) (.string k)).setCell (p := ⟨w.heap.size + 1, 1, none⟩) (by simp) (.string v)).setCell (p := ⟨w.heap.size + 1, 2, none⟩) (by simp) (.int .i64 256)).setCell (p := ⟨w.heap.size + 1, 3, none⟩) (by simp) (.slice ka 0 kc)).drew
    have HKV : Hid (v = (leadL h t).2 ∧ (leadL h t).1 = k) := Hd (by rw [← uh HL, uh HLL]; exact ⟨rfl, rfl⟩)
    by_cases hkk : k = key
    ·have hb := list_eq hkk
     have HD : Hid (decide ((leadL h t).1 = key) = true) := Hd (by rw [(uh HKV).2]; exact decide_eq_true hkk)
     clear hkk
     go_wp2_with fail
     go_region_held3 (fun wx => wx.cell? ⟨w.heap.size, 0, none⟩ = some (.string k) ∧ wx.cell? ⟨w.heap.size, 1, none⟩ = some (.string v) ∧ wx.cell? ⟨w.heap.size, 2, none⟩ = some (.int .i64 256) ∧ wx.cell? ⟨w.heap.size, 3, none⟩ = some (.slice ka 0 kc)) (first | go_keep | exact uh HSX _ (uh TS)) (fail)
     generalize ((((w4.setCell ⟨w.heap.size + 1, 0, none⟩ (.string k)).setCell ⟨w.heap.size + 1, 1, none⟩ (.string v)).setCell ⟨w.heap.size + 1, 2, none⟩ (.int .i64 256)).setCell ⟨w.heap.size + 1, 3, none⟩ (.slice ka 0 kc)).drew = w5 at *
     clear x0 x1 x2 x3 y0 y1 y2 y3 f0 f1 f2 f3 HSX TS
     go_wp2_with fail
     have z0 := (uh R5).cell 0 rfl
     have z1 := (uh R5).cell 1 rfl
     have z2 := (uh R5).cell 2 rfl
     have z3 := (uh R5).cell 3 rfl
     refine bodyPost_ret (v := .tuple #[.agg #[.string k, .string v, .int .i64 256, .slice ka 0 kc], .bool true]) (by simp [results, Tryz.results86, go_sem, z0, z1, z2, z3]) rfl ?_
     exact uh HGR _ _ _ _ _ _ _ _ (uh B5) (uh HKV).1 (uh HD).symm
    ·have hb := list_ne hkk
     have HD : Hid (decide ((leadL h t).1 = key) = false) := Hd (by rw [(uh HKV).2]; exact decide_eq_false hkk)
     clear hkk
     go_wp2_with fail
     go_region_held3 (fun wx => wx.cell? ⟨w.heap.size, 0, none⟩ = some (.string k) ∧ wx.cell? ⟨w.heap.size, 1, none⟩ = some (.string v) ∧ wx.cell? ⟨w.heap.size, 2, none⟩ = some (.int .i64 256) ∧ wx.cell? ⟨w.heap.size, 3, none⟩ = some (.slice ka 0 kc)) (first | go_keep | exact uh HSX _ (uh TS)) (fail)
     generalize ((((w4.setCell ⟨w.heap.size + 1, 0, none⟩ (.string k)).setCell ⟨w.heap.size + 1, 1, none⟩ (.string v)).setCell ⟨w.heap.size + 1, 2, none⟩ (.int .i64 256)).setCell ⟨w.heap.size + 1, 3, none⟩ (.slice ka 0 kc)).drew = w5 at *
     clear x0 x1 x2 x3 y0 y1 y2 y3 f0 f1 f2 f3 HSX TS
     go_wp2_with fail
     have z0 := (uh R5).cell 0 rfl
     have z1 := (uh R5).cell 1 rfl
     have z2 := (uh R5).cell 2 rfl
     have z3 := (uh R5).cell 3 rfl
     refine bodyPost_ret (v := .tuple #[.agg #[.string k, .string v, .int .i64 256, .slice ka 0 kc], .bool false]) (by simp [results, Tryz.results86, go_sem, z0, z1, z2, z3]) rfl ?_
     exact uh HGR _ _ _ _ _ _ _ _ (uh B5) (uh HKV).1 (uh HD).symm
   | fork a hv l r =>
    rw [show decide ((Tr.fork a hv l r).toBr.kids.length = 0) = false from rfl] at HLF
    dsimp only [Tr.toBr, Br.key, Br.val, Br.at_, Br.kids] at HLF x0 x1 x2 x3 HX hKB
    rw [show ([l.toBr, r.toBr] : List Br).length = 2 from rfl] at HLF x3 HX hKB
    obtain ⟨r0, r1, r2, r3⟩ := hRI
    obtain ⟨_, _, okl, okr⟩ := hOK
    obtain ⟨bb, off, kvf, rfl, _, hat⟩ := hKB.at (by simp)
    have hbb := hat.lt
    obtain ⟨s00, s01, s02, s03⟩ := hat.cells 0 (by simp)
    obtain ⟨s10, s11, s12, s13⟩ := hat.cells 1 (by simp)
    have K0 := Hd (hat.kids 0 (by simp))
    have K1 := Hd (hat.kids 1 (by simp))
    simp only [List.getD_cons_zero, List.getD_cons_succ, Nat.zero_mul, Nat.add_zero, Nat.one_mul] at s00 s01 s02 s03 s10 s11 s12 s13 K0 K1
    obtain ⟨ka0, kc0, hkv0, _, _⟩ := (uh K0).shape
    obtain ⟨ka1, kc1, hkv1, _, _⟩ := (uh K1).shape
    rw [hkv0] at K0 s03
    rw [hkv1] at K1 s13
    have HLE : Hid (leadL h (.fork a hv l r) = if bitN h a = 0 then leadL h l else leadL h r) := rfl
    have HBT := Hd (fun wx => l07Bit_any h a wx hks r1)
    have hA : Hid (atCell2 w.heap.size wr = a) := HA
    clear hKB hat hkv0 hkv1 HA
    go_wp2_with fail
    refine (uh HLF wr).mono ?_
    rintro e w4 ⟨rfl, hb4⟩
    have B4 := hbt HBW hb4
    have X4 := Hd ((uh HX).below hb4)
    have R4 := Hd ((uh HRR).below hb4)
    clear hb4 x0 x1 x2 x3 HX HBW HRR
    have x0 := (uh X4).cell 0 rfl
    have x1 := (uh X4).cell 1 rfl
    have x2 := (uh X4).cell 2 rfl
    have x3 := (uh X4).cell 3 rfl
    have f0 := (uh X4).fro 0
    have f1 := (uh X4).fro 1
    have f2 := (uh X4).fro 2
    have f3 := (uh X4).fro 3
    have B4d := uh B4
    have t00 := (B4d.cell (p := ⟨bb, off, none⟩) hbb).trans s00
    have t01 := (B4d.cell (p := ⟨bb, off + 1, none⟩) hbb).trans s01
    have t02 := (B4d.cell (p := ⟨bb, off + 2, none⟩) hbb).trans s02
    have t03 := (B4d.cell (p := ⟨bb, off + 3, none⟩) hbb).trans s03
    have t10 := (B4d.cell (p := ⟨bb, off + 4, none⟩) hbb).trans s10
    have t11 := (B4d.cell (p := ⟨bb, off + 4 + 1, none⟩) hbb).trans s11
    have t12 := (B4d.cell (p := ⟨bb, off + 4 + 2, none⟩) hbb).trans s12
    have t13 := (B4d.cell (p := ⟨bb, off + 4 + 3, none⟩) hbb).trans s13
    clear s00 s01 s02 s03 s10 s11 s12 s13 B4d
    rcases bitN_01 h a with hb | hb
    ·rw [hb] at HBT HLE
     rw [if_pos rfl] at HLE
     have XN : Hid (Blk ((((w4.setCell ⟨w.heap.size, 0, none⟩ (.string l.toBr.key)).setCell ⟨w.heap.size, 1, none⟩ (.string l.toBr.val)).setCell ⟨w.heap.size, 2, none⟩ (.int .i64 l.toBr.at_)).setCell ⟨w.heap.size, 3, none⟩ (.slice ka0 l.toBr.kids.length kc0)).drew w.heap.size [.string l.toBr.key, .string l.toBr.val, .int .i64 l.toBr.at_, .slice ka0 l.toBr.kids.length kc0]) := Hd ((((((uh X4).set 0 (.string l.toBr.key) (by simp)).set 1 (.string l.toBr.val) (by simp)).set 2 (.int .i64 l.toBr.at_) (by simp)).set 3 (.slice ka0 l.toBr.kids.length kc0) (by simp)).drewN 1)
     have BN : Hid (Below w.heap.size w ((((w4.setCell ⟨w.heap.size, 0, none⟩ (.string l.toBr.key)).setCell ⟨w.heap.size, 1, none⟩ (.string l.toBr.val)).setCell ⟨w.heap.size, 2, none⟩ (.int .i64 l.toBr.at_)).setCell ⟨w.heap.size, 3, none⟩ (.slice ka0 l.toBr.kids.length kc0)).drew) := Hd (((((uh B4).setCell (p := ⟨w.heap.size, 0, none⟩) (Nat.le_refl _) (.string l.toBr.key)).setCell (p := ⟨w.heap.size, 1, none⟩) (Nat.le_refl _) (.string l.toBr.val)).setCell (p := ⟨w.heap.size, 2, none⟩) (Nat.le_refl _) (.int .i64 l.toBr.at_)).setCell (p := ⟨w.heap.size, 3, none⟩) (Nat.le_refl _) (.slice ka0 l.toBr.kids.length kc0)).drew
     have RN : Hid (Blk ((((w4.setCell ⟨w.heap.size, 0, none⟩ (.string l.toBr.key)).setCell ⟨w.heap.size, 1, none⟩ (.string l.toBr.val)).setCell ⟨w.heap.size, 2, none⟩ (.int .i64 l.toBr.at_)).setCell ⟨w.heap.size, 3, none⟩ (.slice ka0 l.toBr.kids.length kc0)).drew (w.heap.size + 1) [.string ⟨#[]⟩, .string ⟨#[]⟩, .int .i64 0, .slice none 0 0]) := Hd ((((((uh R4).other (C := w.heap.size) 0 (.string l.toBr.key) (by omega)).other (C := w.heap.size) 1 (.string l.toBr.val) (by omega)).other (C := w.heap.size) 2 (.int .i64 l.toBr.at_) (by omega)).other (C := w.heap.size) 3 (.slice ka0 l.toBr.kids.length kc0) (by omega)).drewN 1)
     go_wp2_with fail
     go_region_law ((go_simp; go_at_call 105; refine (uh HBT _).mono ?_; rintro e w9 ⟨rfl, hw9⟩; subst w9; go_simp))
     all_goals
      generalize ((((w4.setCell ⟨w.heap.size, 0, none⟩ (.string l.toBr.key)).setCell ⟨w.heap.size, 1, none⟩ (.string l.toBr.val)).setCell ⟨w.heap.size, 2, none⟩ (.int .i64 l.toBr.at_)).setCell ⟨w.heap.size, 3, none⟩ (.slice ka0 l.toBr.kids.length kc0)).drew = w5 at *
      clear x0 x1 x2 x3 f0 f1 f2 f3 t00 t01 t02 t03 t10 t11 t12 t13
      go_wp2_with fail
      have hat := atCell2_is (X := w.heap.size) (w := w5) (a := l.at_) (by rw [(uh XN).cell 2 rfl, toBr_at])
      have hle := r2.le
      have hle2 := r2.le256
      refine ⟨⟨a + 1, l, ka0, kc0, uh XN, uh K0, r2, okl, by rw [← uh HL, uh HLE], uh BN, uh RN⟩, ?_⟩
      rw [hat, uh hA]
      omega
    ·rw [hb] at HBT HLE
     rw [if_neg (by omega)] at HLE
     have XN : Hid (Blk ((((w4.setCell ⟨w.heap.size, 0, none⟩ (.string r.toBr.key)).setCell ⟨w.heap.size, 1, none⟩ (.string r.toBr.val)).setCell ⟨w.heap.size, 2, none⟩ (.int .i64 r.toBr.at_)).setCell ⟨w.heap.size, 3, none⟩ (.slice ka1 r.toBr.kids.length kc1)).drew w.heap.size [.string r.toBr.key, .string r.toBr.val, .int .i64 r.toBr.at_, .slice ka1 r.toBr.kids.length kc1]) := Hd ((((((uh X4).set 0 (.string r.toBr.key) (by simp)).set 1 (.string r.toBr.val) (by simp)).set 2 (.int .i64 r.toBr.at_) (by simp)).set 3 (.slice ka1 r.toBr.kids.length kc1) (by simp)).drewN 1)
     have BN : Hid (Below w.heap.size w ((((w4.setCell ⟨w.heap.size, 0, none⟩ (.string r.toBr.key)).setCell ⟨w.heap.size, 1, none⟩ (.string r.toBr.val)).setCell ⟨w.heap.size, 2, none⟩ (.int .i64 r.toBr.at_)).setCell ⟨w.heap.size, 3, none⟩ (.slice ka1 r.toBr.kids.length kc1)).drew) := Hd (((((uh B4).setCell (p := ⟨w.heap.size, 0, none⟩) (Nat.le_refl _) (.string r.toBr.key)).setCell (p := ⟨w.heap.size, 1, none⟩) (Nat.le_refl _) (.string r.toBr.val)).setCell (p := ⟨w.heap.size, 2, none⟩) (Nat.le_refl _) (.int .i64 r.toBr.at_)).setCell (p := ⟨w.heap.size, 3, none⟩) (Nat.le_refl _) (.slice ka1 r.toBr.kids.length kc1)).drew
     have RN : Hid (Blk ((((w4.setCell ⟨w.heap.size, 0, none⟩ (.string r.toBr.key)).setCell ⟨w.heap.size, 1, none⟩ (.string r.toBr.val)).setCell ⟨w.heap.size, 2, none⟩ (.int .i64 r.toBr.at_)).setCell ⟨w.heap.size, 3, none⟩ (.slice ka1 r.toBr.kids.length kc1)).drew (w.heap.size + 1) [.string ⟨#[]⟩, .string ⟨#[]⟩, .int .i64 0, .slice none 0 0]) := Hd ((((((uh R4).other (C := w.heap.size) 0 (.string r.toBr.key) (by omega)).other (C := w.heap.size) 1 (.string r.toBr.val) (by omega)).other (C := w.heap.size) 2 (.int .i64 r.toBr.at_) (by omega)).other (C := w.heap.size) 3 (.slice ka1 r.toBr.kids.length kc1) (by omega)).drewN 1)
     go_wp2_with fail
     go_region_law ((go_simp; go_at_call 105; refine (uh HBT _).mono ?_; rintro e w9 ⟨rfl, hw9⟩; subst w9; go_simp))
     all_goals
      generalize ((((w4.setCell ⟨w.heap.size, 0, none⟩ (.string r.toBr.key)).setCell ⟨w.heap.size, 1, none⟩ (.string r.toBr.val)).setCell ⟨w.heap.size, 2, none⟩ (.int .i64 r.toBr.at_)).setCell ⟨w.heap.size, 3, none⟩ (.slice ka1 r.toBr.kids.length kc1)).drew = w5 at *
      clear x0 x1 x2 x3 f0 f1 f2 f3 t00 t01 t02 t03 t10 t11 t12 t13
      go_wp2_with fail
      have hat := atCell2_is (X := w.heap.size) (w := w5) (a := r.at_) (by rw [(uh XN).cell 2 rfl, toBr_at])
      have hle := r3.le
      have hle2 := r3.le256
      refine ⟨⟨a + 1, r, ka1, kc1, uh XN, uh K1, r3, okr, by rw [← uh HL, uh HLE], uh BN, uh RN⟩, ?_⟩
      rw [hat, uh hA]
      omega
end Go.Proofs.YtnhhnjmjodmacaaGreatDoor.Sha
