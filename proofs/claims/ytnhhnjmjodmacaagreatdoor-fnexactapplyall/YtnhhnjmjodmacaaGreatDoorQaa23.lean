/- What the proof of the claim needs (joined by program): BrSp LeA Cmd. -/
import Derived.Test.YtnhhnjmjodmacaaGreatDoorQaa22
import Derived.Test.YtnhhnjmjodmacaaGreatDoorQaa15
import Derived.Test.YtnhhnjmjodmacaaGreatDoorQaa02
namespace Go.Proofs.YtnhhnjmjodmacaaGreatDoor.Sha
set_option maxRecDepth 100000
set_option maxHeartbeats 8000000
open Go.ChangeShapes Go.WideShapes Go.ChangeAt Go.RowKit
set_option linter.unusedVariables false
set_option linter.unusedSimpArgs false
def mpT (o : Option Tr) (key val : ByteArray) : Tr := match o with
 | none => .leaf key val
 | some t => putT (kh key) (putAt t key) key val t
theorem putT_lvN (h : ByteArray) (a : Nat) (k v : ByteArray) (ha : a ≤ 256) : ∀ t, TrOK t → (putT h a k v t).lvN = if a < 256 then t.lvN + 1 else t.lvN
 | .leaf k' v', ho => by
  unfold putT
  by_cases e : a = 256
  ·rw [if_pos e, if_neg (by omega)]; rfl
  ·rw [if_neg e, if_pos (by omega)]; unfold forkT; split <;> rfl
 | .fork b hb l r, ho => by
  unfold putT
  by_cases e : b < a
  ·rw [if_pos e]
   split
   ·show (putT h a k v l).lvN + r.lvN = _
    rw [putT_lvN h a k v ha l ho.2.2.1]
    show _ = if a < 256 then l.lvN + r.lvN + 1 else l.lvN + r.lvN
    split <;> omega
   ·show l.lvN + (putT h a k v r).lvN = _
    rw [putT_lvN h a k v ha r ho.2.2.2]
    show _ = if a < 256 then l.lvN + r.lvN + 1 else l.lvN + r.lvN
    split <;> omega
  ·rw [if_neg e, if_pos (by have := ho.1; omega)]
   unfold forkT
   split
   ·show 1 + (l.lvN + r.lvN) = l.lvN + r.lvN + 1; omega
   ·show (l.lvN + r.lvN) + 1 = l.lvN + r.lvN + 1; rfl
theorem tr_cnt : ∀ t : Tr, t.toBr.cnt + 1 ≤ 2 * t.lvN
 | .leaf k v => by rw [Br.cnt_eq]; show 1 + cntL [] + 1 ≤ 2 * 1; unfold cntL; omega
 | .fork a hv l r => by
  have h1 := tr_cnt l
  have h2 := tr_cnt r
  rw [Br.cnt_eq]
  show 1 + cntL [l.toBr, r.toBr] + 1 ≤ 2 * (l.lvN + r.lvN)
  rw [cntL_cons, cntL_cons]
  unfold cntL
  omega
theorem tr_cntL (t : Tr) : cntL t.toBr.kids ≤ 2 * t.lvN := by
 have h := tr_cnt t
 rw [Br.cnt_eq] at h
 omega
theorem mpT_ok {o : Option Tr} {key val : ByteArray} (ho : OkO o) (hkv : TrOK (.leaf key val)) : TrOK (mpT o key val) := by
 cases o with
 | none => exact hkv
 | some t => exact putT_ok (kh key) (putAt t key) key val (fd_le _ _) (kh_size (by have := (okK_iff.1 hkv.1).2; omega)) hkv.1 hkv.2 t ho
theorem l07Put_any (o : Option Tr) (hok : OkO o) (hri : RiseO o) (hsp : SepO o) (key val : ByteArray) (hkv : TrOK (.leaf key val)) (B0 : Nat → Prop) (kv : Value) (w : World) (hB0 : ∀ x, B0 x → x < w.heap.size) (hB : Brs B0 w kv (brOf o).kids) :
  Calls Tryz.prog 90 #[.agg #[.string (brOf o).key, .string (brOf o).val, .int .i64 (brOf o).at_, kv], .string key, .string val] w fun e w' => DrR B0 (mpT o key val).toBr w e w' := by
 obtain ⟨sa, cap, rfl, hcap, hcm⟩ := hB.shape
 have hk24 := (okK_iff.1 hkv.1).2
 have B1 := Hd ((bal w (.cells #[.string (brOf o).key, .string (brOf o).val, .int .i64 (brOf o).at_, .slice sa (brOf o).kids.length cap] 35)).alloc (by simp) (.cells #[.string ⟨#[]⟩, .string ⟨#[]⟩, .int .i64 0, .slice none 0 0] 35))
 have X1 := Hd ((Blk.new w #[.string (brOf o).key, .string (brOf o).val, .int .i64 (brOf o).at_, .slice sa (brOf o).kids.length cap] 35 w.heap.size rfl).alloc (.cells #[.string ⟨#[]⟩, .string ⟨#[]⟩, .int .i64 0, .slice none 0 0] 35))
 have R1 := Hd (Blk.new (w.alloc (.cells #[.string (brOf o).key, .string (brOf o).val, .int .i64 (brOf o).at_, .slice sa (brOf o).kids.length cap] 35)) #[.string ⟨#[]⟩, .string ⟨#[]⟩, .int .i64 0, .slice none 0 0] 35 (w.heap.size + 1) (by simp))
 have HRS := Hd (show w.heap.size < w.heap.size + 1 by omega)
 have HE := Hd (fun wx => l07Empty_any (brOf o).key (brOf o).val (brOf o).at_ (brOf o).kids sa cap wx (by omega))
 have e9 : Br.mk (brOf o).key (brOf o).val (brOf o).at_ (brOf o).kids = brOf o := by cases brOf o; rfl
 rw [e9] at HE
 clear e9
 have HKB := Hd hB
 have HNW := Hd (fun wx => l07New_any key val wx)
 clear hB
 cases o with
 | none =>
  have he : emptyBr (brOf none) = true := (empty_iff _ _ _ _).2 ⟨rfl, rfl, rfl, rfl⟩
  rw [he] at HE
  have HGR : Hid (∀ w', Below w.heap.size w w' → DrR B0 (mpT none key val).toBr w (.returned (.agg #[.string key, .string val, .int .i64 256, .slice none 0 0])) w') := Hd (fun w' hb => ⟨none, 0, 0, rfl, .nil _ _ (by unfold maxLen; omega), hb⟩)
  dsimp only [brOf, Br.key, Br.val, Br.at_, Br.kids, List.length_nil] at *
  clear he HKB
  go_enter Tryz.func90, Tryz.ntmps90
  go_wp2_with fail
  generalize (w.alloc (.cells #[.string ⟨#[]⟩, .string ⟨#[]⟩, .int .i64 0, .slice sa 0 cap] 35)).alloc (.cells #[.string ⟨#[]⟩, .string ⟨#[]⟩, .int .i64 0, .slice none 0 0] 35) = w1 at *
  generalize w.heap.size + 1 = R at *
  refine (uh HE w1).mono ?_
  rintro e w2 ⟨rfl, hb2⟩
  have B2 := hbt B1 hb2
  have R2 := Hd ((uh R1).below hb2)
  clear hb2 B1 R1 X1
  go_wp2_with fail
  refine (uh HNW w2).mono ?_
  rintro e w3 ⟨rfl, hb3⟩
  have B3 := hbt B2 hb3
  have R3 := Hd ((uh R2).below hb3)
  clear hb3 B2 R2
  have r0 := (uh R3).cell 0 rfl
  have r1 := (uh R3).cell 1 rfl
  have r2 := (uh R3).cell 2 rfl
  have r3 := (uh R3).cell 3 rfl
  have f0 := (uh R3).fro 0
  have f1 := (uh R3).fro 1
  have f2 := (uh R3).fro 2
  have f3 := (uh R3).fro 3
  have hZ := set4_blk (uh R3) (.string key) (.string val) (.int .i64 256) (.slice none 0 0)
  have z0 := hZ.cell 0 rfl
  have z1 := hZ.cell 1 rfl
  have z2 := hZ.cell 2 rfl
  have z3 := hZ.cell 3 rfl
  have HT4 := Hd (set4_touch w3 R (.string key) (.string val) (.int .i64 256) (.slice none 0 0))
  have HBF := Hd ((uh B3).trans ((uh HT4).below (uh B3).size (fun q hq e => by have := (uh HRS); omega)))
  unfold set4 at z0 z1 z2 z3
  clear hZ
  go_wp2_with fail
  refine bodyPost_ret (v := .agg #[.string key, .string val, .int .i64 256, .slice none 0 0]) (by simp [results, Tryz.results90, go_sem, z0, z1, z2, z3]) rfl ?_
  exact uh HGR _ (uh HBF)
 | some t =>
  rw [show emptyBr (brOf (some t)) = false from not_empty hok] at HE
  have HHS := Hd (fun wx => l07Hash_any key wx (by omega))
  have hks := kh_size (k := key) (by omega)
  have hlo := lead_ok (kh key) t hok
  have hlk := kh_size (k := (leadL (kh key) t).1) (by have := (okK_iff.1 hlo.1).2; omega)
  dsimp only [brOf] at *
  have HNR := Hd (fun wx (hx : Below w.heap.size w wx) => l07Near_any (kh key) hks t hok hri _ _ wx ((uh HKB).blw hx))
  have HDF := Hd (fun wx => l07Differ_any (kh key) (kh (leadL (kh key) t).1) wx hks hlk)
  rw [fd_comm] at HDF
  have HIN := Hd (fun wx (hx : Below w.heap.size w wx) => l07Insert_any key val (kh key) hks (fd (kh (leadL (kh key) t).1) (kh key)) (fd_le _ _) hkv t hok 0 hri hsp.1 rfl B0 _ wx (fun x h9 => Nat.lt_of_lt_of_le (hB0 x h9) hx.size) ((uh HKB).blw hx))
  have HMT : Hid (mpT (some t) key val = putT (kh key) (fd (kh (leadL (kh key) t).1) (kh key)) key val t) := rfl
  have HGR : Hid (∀ sa n cap w', Brs (fun x => B0 x ∨ w.heap.size ≤ x) w' (.slice sa n cap) (putT (kh key) (fd (kh (leadL (kh key) t).1) (kh key)) key val t).toBr.kids → Below w.heap.size w w' → DrR B0 (mpT (some t) key val).toBr w (.returned (.agg #[.string (putT (kh key) (fd (kh (leadL (kh key) t).1) (kh key)) key val t).toBr.key, .string (putT (kh key) (fd (kh (leadL (kh key) t).1) (kh key)) key val t).toBr.val, .int .i64 (putT (kh key) (fd (kh (leadL (kh key) t).1) (kh key)) key val t).toBr.at_, .slice sa n cap])) w') := Hd (fun sa n cap w' h1 hb => ⟨sa, n, cap, rfl, h1, hb⟩)
  generalize (putT (kh key) (fd (kh (leadL (kh key) t).1) (kh key)) key val t).toBr = D at *
  generalize kh (leadL (kh key) t).1 = lh at *
  generalize fd lh (kh key) = A at *
  generalize kh key = hh at *
  clear hlo hlk hks hok hri hsp hkv HMT HKB
  go_enter Tryz.func90, Tryz.ntmps90
  go_wp2_with fail
  generalize (w.alloc (.cells #[.string t.toBr.key, .string t.toBr.val, .int .i64 t.toBr.at_, .slice sa t.toBr.kids.length cap] 35)).alloc (.cells #[.string ⟨#[]⟩, .string ⟨#[]⟩, .int .i64 0, .slice none 0 0] 35) = w1 at *
  generalize w.heap.size + 1 = R at *
  refine (uh HE w1).mono ?_
  rintro e w2 ⟨rfl, hb2⟩
  have B2 := hbt B1 hb2
  have X2 := Hd ((uh X1).below hb2)
  have R2 := Hd ((uh R1).below hb2)
  clear hb2 B1 R1 X1 HE
  go_wp2_with fail
  refine (uh HHS w2).mono ?_
  rintro e w3 ⟨rfl, hb3⟩
  have B3 := hbt B2 hb3
  have X3 := Hd ((uh X2).below hb3)
  have R3 := Hd ((uh R2).below hb3)
  clear hb3 B2 X2 R2 HHS
  have x0 := (uh X3).cell 0 rfl
  have x1 := (uh X3).cell 1 rfl
  have x2 := (uh X3).cell 2 rfl
  have x3 := (uh X3).cell 3 rfl
  go_wp2_with fail
  refine (uh HNR w3 (uh B3)).mono ?_
  rintro e w4 ⟨rfl, hb4⟩
  have B4 := hbt B3 hb4
  have X4 := Hd ((uh X3).below hb4)
  have R4 := Hd ((uh R3).below hb4)
  clear hb4 B3 X3 R3 HNR x0 x1 x2 x3
  go_wp2_with fail
  refine (uh HDF w4).mono ?_
  rintro e w9 ⟨rfl, hw9⟩
  subst w9
  have x0 := (uh X4).cell 0 rfl
  have x1 := (uh X4).cell 1 rfl
  have x2 := (uh X4).cell 2 rfl
  have x3 := (uh X4).cell 3 rfl
  have HSX : Hid (∀ wx, Below w4.heap.size w4 wx → wx.cell? ⟨w.heap.size, 0, none⟩ = some (.string t.toBr.key) ∧ wx.cell? ⟨w.heap.size, 1, none⟩ = some (.string t.toBr.val) ∧ wx.cell? ⟨w.heap.size, 2, none⟩ = some (.int .i64 t.toBr.at_) ∧ wx.cell? ⟨w.heap.size, 3, none⟩ = some (.slice sa t.toBr.kids.length cap)) := Hd (fun wx hb => by
   have X := (uh X4).below hb
   exact ⟨X.cell 0 rfl, X.cell 1 rfl, X.cell 2 rfl, X.cell 3 rfl⟩)
  go_upto_region 5 with fail
  go_cut [] (fun wx => ∃ (w7 : World) (s7 : Option Addr) (n7 c7 : Nat), Brs (fun x => B0 x ∨ w4.heap.size ≤ x) w7 (.slice s7 n7 c7) D.kids ∧ Below w4.heap.size w4 w7 ∧ wx = set4 w7 R (.string D.key) (.string D.val) (.int .i64 D.at_) (.slice s7 n7 c7))
  case first =>
   go_wp2_with fail
   go_region_law (first
    | (go_simp; go_at_call 110; refine (uh HIN w5 ((uh B4).trans ((uh HB5).mono (uh B4).size))).mono ?_; rintro e w7 ⟨s7, n7, c7, rfl, hBr7, hb7⟩; (have HB7 := Hd (And.intro (hBr7.mono (T := fun x => B0 x ∨ w4.heap.size ≤ x) (fun x hx => hx.imp id (fun h => by have := (uh HB5).size; omega))) ((uh HB5).trans (hb7.mono (uh HB5).size)))); clear hBr7 hb7; (have R7 := (uh R4).below (uh HB7).2); (have r0 := R7.cell 0 rfl); (have r1 := R7.cell 1 rfl); (have r2 := R7.cell 2 rfl); (have r3 := R7.cell 3 rfl); (have f0 := R7.fro 0); (have f1 := R7.fro 1); (have f2 := R7.fro 2); (have f3 := R7.fro 3); clear R7; go_simp)
    | (go_simp; go_at_call 107; refine (uh HNW _).mono ?_; rintro e w5 ⟨rfl, hb5⟩; (have HB5 := Hd ((below_drewN (Below.refl w4.heap.size w4) 1).trans hb5)); clear hb5; (obtain ⟨y0, y1, y2, y3⟩ := uh HSX w5 (uh HB5)); go_simp))
   all_goals
    go_wp2_with fail
    go_meet
    exact ⟨w7, s7, n7, c7, (uh HB7).1, (uh HB7).2, rfl⟩
  case rest =>
   obtain ⟨w7, s7, n7, c7, hBr7, hb7, hwc⟩ := hcut
   have B7 := (uh B4).trans (hb7.mono (uh B4).size)
   have hZ := set4_blk ((uh R4).below hb7) (.string D.key) (.string D.val) (.int .i64 D.at_) (.slice s7 n7 c7)
   have HT4 := set4_touch w7 R (.string D.key) (.string D.val) (.int .i64 D.at_) (.slice s7 n7 c7)
   rw [← hwc] at hZ HT4
   have HBF := Hd (B7.trans (HT4.below B7.size (fun q hq e => by have := (uh HRS); omega)))
   have hR4 := (uh R4).1
   have HBR := Hd ((hBr7.touch HT4 (fun q hq e => by have e2 : q = R := e; have := uh HRS; rcases hq with hq | hq; (have h8 := hB0 q hq; omega); omega)).mono (T := fun x => B0 x ∨ w.heap.size ≤ x) (fun x hx => hx.imp id (fun h => by have := (uh B4).size; omega)))
   have z0 := hZ.cell 0 rfl
   have z1 := hZ.cell 1 rfl
   have z2 := hZ.cell 2 rfl
   have z3 := hZ.cell 3 rfl
   clear hZ HT4 B7 hBr7 hb7 hwc B4 X4 R4 x0 x1 x2 x3 HSX HIN HNW HDF
   obtain ⟨w8, hw8⟩ : ∃ w8, w8 = wc := ⟨_, rfl⟩
   subst hw8
   go_wp2_with fail
   refine bodyPost_ret (v := .agg #[.string D.key, .string D.val, .int .i64 D.at_, .slice s7 n7 c7]) (by simp [results, Tryz.results90, go_sem, z0, z1, z2, z3]) rfl ?_
   exact uh HGR _ _ _ _ (uh HBR) (uh HBF)
end Go.Proofs.YtnhhnjmjodmacaaGreatDoor.Sha
namespace Go.Proofs.YtnhhnjmjodmacaaGreatDoor.Sha
set_option maxRecDepth 100000
set_option maxHeartbeats 8000000
open Go.ChangeShapes Go.WideShapes Go.ChangeAt Go.RowKit
set_option linter.unusedVariables false
def vbV (kind : Int) (val was : ByteArray) : ByteArray := if kind = 2 then was ++ val else if kind = 3 then was else val
theorem valueBy_any (kind ses seq : Int) (key val was : ByteArray) (w : World) (hw : was.size ≤ 1048576) (hv : val.size ≤ 1048576) :
  Calls Tryz.prog 120 #[.agg #[.int .i64 kind, .int .i64 ses, .int .i64 seq, .string key, .string val], .string was] w fun e w' => e = .returned (.string (vbV kind val was)) ∧ Below w.heap.size w w' := by
 by_cases h2 : kind = 2
 ·have H := Hd (show vbV kind val was = was ++ val by unfold vbV; rw [if_pos h2])
  subst kind
  go_enter Tryz.func120, Tryz.ntmps120
  go_wp2_with fail
  go_ret
  refine ⟨(congrArg (fun x => Ending.returned (Value.string x)) (uh H)).symm, (Below.refl _ _).alloc (Nat.le_refl _) _⟩
 ·by_cases h3 : kind = 3
  ·have H := Hd (show vbV kind val was = was by unfold vbV; rw [if_neg h2, if_pos h3])
   subst kind
   go_enter Tryz.func120, Tryz.ntmps120
   go_wp2_with fail
   go_ret
   refine ⟨(congrArg (fun x => Ending.returned (Value.string x)) (uh H)).symm, (Below.refl _ _).alloc (Nat.le_refl _) _⟩
  ·have H := Hd (show vbV kind val was = val by unfold vbV; rw [if_neg h2, if_neg h3])
   go_enter Tryz.func120, Tryz.ntmps120
   go_wp2_with fail
   go_ret
   refine ⟨(congrArg (fun x => Ending.returned (Value.string x)) (uh H)).symm, (Below.refl _ _).alloc (Nat.le_refl _) _⟩
theorem wrapEx (x : Int) (h0 : -9223372036854775808 ≤ x) (h1 : x < 9223372036854775808) : IntKind.i64.wrap x = x := by
 simp only [IntKind.wrap, IntKind.bits, IntKind.signed]
 simp
 omega
def exV (n k : Nat) (there : Bool) (z : Nat) : Int := if there = true then max ((n : Int) + 1 - 50) ((z : Int) - 60) else max (max ((n : Int) + 1 - 50) ((z : Int) - 60)) ((k : Int) + 1 - 40)
theorem excess_of (p n k : Nat) (there : Bool) (value : ByteArray) (w : World) (hn : n ≤ 1048576) (hk : k ≤ 1000) (hv : value.size ≤ 2097152)
  (hP : ∀ wx, Below w.heap.size w wx → Calls Tryz.prog 125 #[.pointer (some ⟨p, 0, none⟩)] wx fun e w' => e = .returned (.int .i64 n) ∧ w' = wx)
  (hK : ∀ wx, Below w.heap.size w wx → Calls Tryz.prog 132 #[.pointer (some ⟨p, 1, none⟩)] wx fun e w' => e = .returned (.int .i64 k) ∧ Below wx.heap.size wx w') :
  Calls Tryz.prog 121 #[.pointer (some ⟨p, 0, none⟩), .bool there, .string value] w fun e w' => e = .returned (.int .i64 (exV n k there value.size)) ∧ Below w.heap.size w w' := by
 have HP := Hd hP
 have HK := Hd hK
 clear hP hK
 go_enter Tryz.func121, Tryz.ntmps121
 go_wp2_with fail
 refine (uh HP _ (Below.refl _ _)).mono ?_
 rintro e w9 ⟨rfl, hw9⟩
 subst w9
 have q1 : IntKind.i64.wrap ((n : Int) + 1) = (n : Int) + 1 := wrapEx _ (by omega) (by omega)
 have q2 : IntKind.i64.wrap ((n : Int) + 1 - 50) = (n : Int) + 1 - 50 := wrapEx _ (by omega) (by omega)
 have q3 : IntKind.i64.wrap ((value.size : Int) - 60) = (value.size : Int) - 60 := wrapEx _ (by omega) (by omega)
 have q4 : IntKind.i64.wrap ((k : Int) + 1) = (k : Int) + 1 := wrapEx _ (by omega) (by omega)
 have q5 : IntKind.i64.wrap ((k : Int) + 1 - 40) = (k : Int) + 1 - 40 := wrapEx _ (by omega) (by omega)
 cases there
 ·go_wp2_with fail
  all_goals
   refine (uh HK _ (Below.refl _ _)).mono ?_
   rintro e w1 ⟨rfl, hb1⟩
   have KB := Hd hb1
   clear hb1
   go_wp2_with fail
  all_goals
   go_ret
   exact ⟨ret_int (by unfold exV; simp only [Bool.false_eq_true, if_false]; omega), uh KB⟩
 ·go_wp2_with fail
  all_goals
   go_ret
   exact ⟨ret_int (by unfold exV; simp only [if_true]; omega), Below.refl _ _⟩
end Go.Proofs.YtnhhnjmjodmacaaGreatDoor.Sha
namespace Go.Proofs.YtnhhnjmjodmacaaGreatDoor
set_option maxRecDepth 100000
set_option maxHeartbeats 8000000
open Go.ChangeShapes Go.WideShapes Go.ChangeAt Go.RowKit
set_option linter.unusedVariables false
theorem keyOK_any (s : ByteArray) (w : World) (hs : s.size ≤ maxLen) :
  Calls Tryz.prog 73 #[.string s] w fun e w' => e = .returned (.bool (inB s.size 1 24)) ∧ w' = w := by
 unfold maxLen at hs
 go_enter Tryz.func73, Tryz.ntmps73
 go_wp2_with fail
 refine (within_any _ _ _ _).mono ?_
 rintro e w' ⟨rfl, rfl⟩
 go_wp2
 go_ret
 exact ⟨rfl, rfl⟩
theorem l02Key_any (s : ByteArray) (w : World) (hs : s.size ≤ maxLen) :
  Calls Tryz.prog 59 #[.string s] w fun e w' => e = .returned (.bool (inB s.size 1 24)) ∧ w' = w := by
 unfold maxLen at hs
 by_cases h1 : 1 ≤ (s.size : Int)
 ·go_enter Tryz.func59, Tryz.ntmps59
  go_wp2
  go_ret
  exact ⟨ret_bool (by simp [inB, h1]), rfl⟩
 ·have H := Hd (show inB s.size 1 24 = false by simp [inB]; omega)
  go_enter Tryz.func59, Tryz.ntmps59
  go_wp2
  go_ret
  exact ⟨ret_bool (uh H).symm, rfl⟩

def cmdOK (k s q : Int) (key val : ByteArray) : Bool :=
 if inB s 0 65535 && inB q 0 65535 && decide (val.size ≤ 60) then
  (if k = 1 ∨ k = 2 then inB key.size 1 24 else if k = 3 then inB key.size 1 24 && emptyB val else if k = 4 ∨ k = 5 then emptyB key && emptyB val && decide (q = 0) else false)
 else false

theorem implCommandOK_any (k s q : Int) (key val : ByteArray) (w : World) (hk : key.size ≤ maxLen) (hv : val.size ≤ maxLen) :
  Calls Tryz.prog 38 #[.agg #[.int .i64 k, .int .i64 s, .int .i64 q, .string key, .string val]] w fun e w' => e = .returned (.bool (cmdOK k s q key val)) ∧ Below w.heap.size w w' := by
 unfold maxLen at hk hv
 have HB : ∀ o, Below w.heap.size w (w.alloc o) := fun o => (Below.refl _ _).alloc (Nat.le_refl _) o
 have H5 := Hd HB
 clear HB
 rcases Bool.eq_false_or_eq_true (inB s 0 65535) with h1 | h1
 case inr =>
  have H := Hd (show cmdOK k s q key val = false by simp [cmdOK, h1])
  go_enter Tryz.func38, Tryz.ntmps38
  go_wp2_with (first | (go_at_call 72; refine (within_any _ _ _ _).mono ?_; rintro e w' ⟨rfl, rfl⟩) | (go_at_call 73; refine (keyOK_any _ _ (by unfold maxLen; omega)).mono ?_; rintro e w' ⟨rfl, rfl⟩))
  go_ret
  exact ⟨ret_bool (uh H).symm, uh H5 _⟩
 rcases Bool.eq_false_or_eq_true (inB q 0 65535) with h2 | h2
 case inr =>
  have H := Hd (show cmdOK k s q key val = false by simp [cmdOK, h2])
  go_enter Tryz.func38, Tryz.ntmps38
  go_wp2_with (first | (go_at_call 72; refine (within_any _ _ _ _).mono ?_; rintro e w' ⟨rfl, rfl⟩) | (go_at_call 73; refine (keyOK_any _ _ (by unfold maxLen; omega)).mono ?_; rintro e w' ⟨rfl, rfl⟩))
  go_ret
  exact ⟨ret_bool (uh H).symm, uh H5 _⟩
 by_cases h3 : (60 : Int) < (val.size : Int)
 ·have H := Hd (show cmdOK k s q key val = false by simp [cmdOK]; omega)
  go_enter Tryz.func38, Tryz.ntmps38
  go_wp2_with (first | (go_at_call 72; refine (within_any _ _ _ _).mono ?_; rintro e w' ⟨rfl, rfl⟩) | (go_at_call 73; refine (keyOK_any _ _ (by unfold maxLen; omega)).mono ?_; rintro e w' ⟨rfl, rfl⟩))
  go_ret
  exact ⟨ret_bool (uh H).symm, uh H5 _⟩
 have h3' : val.size ≤ 60 := by omega
 have E := Hd (show cmdOK k s q key val = (if k = 1 ∨ k = 2 then inB key.size 1 24 else if k = 3 then inB key.size 1 24 && emptyB val else if k = 4 ∨ k = 5 then emptyB key && emptyB val && decide (q = 0) else false) by simp [cmdOK, h1, h2, h3'])
 clear h3'
 by_cases k1 : k = 1
 ·have H := Hd ((uh E).trans (by rw [if_pos (Or.inl k1)]))
  subst k1
  go_enter Tryz.func38, Tryz.ntmps38
  go_wp2_with (first | (go_at_call 72; refine (within_any _ _ _ _).mono ?_; rintro e w' ⟨rfl, rfl⟩) | (go_at_call 73; refine (keyOK_any _ _ (by unfold maxLen; omega)).mono ?_; rintro e w' ⟨rfl, rfl⟩))
  go_ret
  exact ⟨ret_bool (uh H).symm, uh H5 _⟩
 by_cases k2 : k = 2
 ·have H := Hd ((uh E).trans (by rw [if_pos (Or.inr k2)]))
  subst k2
  go_enter Tryz.func38, Tryz.ntmps38
  go_wp2_with (first | (go_at_call 72; refine (within_any _ _ _ _).mono ?_; rintro e w' ⟨rfl, rfl⟩) | (go_at_call 73; refine (keyOK_any _ _ (by unfold maxLen; omega)).mono ?_; rintro e w' ⟨rfl, rfl⟩))
  go_ret
  exact ⟨ret_bool (uh H).symm, uh H5 _⟩
 by_cases k3 : k = 3
 ·have H := Hd ((uh E).trans (by rw [if_neg (by omega), if_pos k3]))
  subst k3
  rcases Bool.eq_false_or_eq_true (inB key.size 1 24) with h4 | h4
  ·go_enter Tryz.func38, Tryz.ntmps38
   go_wp2_with (first | (go_at_call 72; refine (within_any _ _ _ _).mono ?_; rintro e w' ⟨rfl, rfl⟩) | (go_at_call 73; refine (keyOK_any _ _ (by unfold maxLen; omega)).mono ?_; rintro e w' ⟨rfl, rfl⟩))
   all_goals
    go_ret
    exact ⟨ret_bool (by rw [uh H, h4]; simp [emptyB]), uh H5 _⟩
  ·go_enter Tryz.func38, Tryz.ntmps38
   go_wp2_with (first | (go_at_call 72; refine (within_any _ _ _ _).mono ?_; rintro e w' ⟨rfl, rfl⟩) | (go_at_call 73; refine (keyOK_any _ _ (by unfold maxLen; omega)).mono ?_; rintro e w' ⟨rfl, rfl⟩))
   go_ret
   exact ⟨ret_bool (by rw [uh H, h4]; simp), uh H5 _⟩
 by_cases k4 : k = 4 ∨ k = 5
 ·have H := Hd ((uh E).trans (by rw [if_neg (by omega), if_neg k3, if_pos k4]))
  clear E k1 k2 k3
  have H4 := Hd k4
  clear k4
  rcases Bool.eq_false_or_eq_true (emptyB key) with h4 | h4 <;> rcases Bool.eq_false_or_eq_true (emptyB val) with h5 | h5
  all_goals
   unfold emptyB at h4 h5
   rcases uh H4 with k4 | k4
   all_goals
    subst k4
    go_enter Tryz.func38, Tryz.ntmps38
    go_wp2_with (first | (go_at_call 72; refine (within_any _ _ _ _).mono ?_; rintro e w' ⟨rfl, rfl⟩) | (go_at_call 73; refine (keyOK_any _ _ (by unfold maxLen; omega)).mono ?_; rintro e w' ⟨rfl, rfl⟩))
    all_goals
     go_ret
     refine ⟨ret_bool ?_, uh H5 _⟩
     rw [uh H]
     simp [emptyB, h4, h5]
     try rfl
 ·have H := Hd ((uh E).trans (by rw [if_neg (by omega), if_neg k3, if_neg k4]))
  have k5 : ¬ k = 4 := by omega
  have k6 : ¬ k = 5 := by omega
  clear k4 E
  go_enter Tryz.func38, Tryz.ntmps38
  go_wp2_with (first | (go_at_call 72; refine (within_any _ _ _ _).mono ?_; rintro e w' ⟨rfl, rfl⟩) | (go_at_call 73; refine (keyOK_any _ _ (by unfold maxLen; omega)).mono ?_; rintro e w' ⟨rfl, rfl⟩))
  go_ret
  exact ⟨ret_bool (uh H).symm, uh H5 _⟩
theorem specCommandOK_any (k s q : Int) (key val : ByteArray) (w : World) (hk : key.size ≤ maxLen) (hv : val.size ≤ maxLen) :
  Calls Tryz.prog 31 #[.agg #[.int .i64 k, .int .i64 s, .int .i64 q, .string key, .string val]] w fun e w' => e = .returned (.bool (cmdOK k s q key val)) ∧ Below w.heap.size w w' := by
 unfold maxLen at hk hv
 have HB : ∀ o, Below w.heap.size w (w.alloc o) := fun o => (Below.refl _ _).alloc (Nat.le_refl _) o
 have H5 := Hd HB
 clear HB
 rcases Bool.eq_false_or_eq_true (inB s 0 65535) with h1 | h1
 case inr =>
  have H := Hd (show cmdOK k s q key val = false by simp [cmdOK, h1])
  go_enter Tryz.func31, Tryz.ntmps31
  go_wp2_with (first | (go_at_call 58; refine (l01In_any _ _ _ _).mono ?_; rintro e w' ⟨rfl, rfl⟩) | (go_at_call 59; refine (l02Key_any _ _ (by unfold maxLen; omega)).mono ?_; rintro e w' ⟨rfl, rfl⟩))
  go_ret
  exact ⟨ret_bool (uh H).symm, uh H5 _⟩
 rcases Bool.eq_false_or_eq_true (inB q 0 65535) with h2 | h2
 case inr =>
  have H := Hd (show cmdOK k s q key val = false by simp [cmdOK, h2])
  go_enter Tryz.func31, Tryz.ntmps31
  go_wp2_with (first | (go_at_call 58; refine (l01In_any _ _ _ _).mono ?_; rintro e w' ⟨rfl, rfl⟩) | (go_at_call 59; refine (l02Key_any _ _ (by unfold maxLen; omega)).mono ?_; rintro e w' ⟨rfl, rfl⟩))
  go_ret
  exact ⟨ret_bool (uh H).symm, uh H5 _⟩
 by_cases h3 : (60 : Int) < (val.size : Int)
 ·have H := Hd (show cmdOK k s q key val = false by simp [cmdOK]; omega)
  go_enter Tryz.func31, Tryz.ntmps31
  go_wp2_with (first | (go_at_call 58; refine (l01In_any _ _ _ _).mono ?_; rintro e w' ⟨rfl, rfl⟩) | (go_at_call 59; refine (l02Key_any _ _ (by unfold maxLen; omega)).mono ?_; rintro e w' ⟨rfl, rfl⟩))
  go_ret
  exact ⟨ret_bool (uh H).symm, uh H5 _⟩
 have h3' : val.size ≤ 60 := by omega
 have E := Hd (show cmdOK k s q key val = (if k = 1 ∨ k = 2 then inB key.size 1 24 else if k = 3 then inB key.size 1 24 && emptyB val else if k = 4 ∨ k = 5 then emptyB key && emptyB val && decide (q = 0) else false) by simp [cmdOK, h1, h2, h3'])
 clear h3'
 by_cases k1 : k = 1
 ·have H := Hd ((uh E).trans (by rw [if_pos (Or.inl k1)]))
  subst k1
  go_enter Tryz.func31, Tryz.ntmps31
  go_wp2_with (first | (go_at_call 58; refine (l01In_any _ _ _ _).mono ?_; rintro e w' ⟨rfl, rfl⟩) | (go_at_call 59; refine (l02Key_any _ _ (by unfold maxLen; omega)).mono ?_; rintro e w' ⟨rfl, rfl⟩))
  go_ret
  exact ⟨ret_bool (uh H).symm, uh H5 _⟩
 by_cases k2 : k = 2
 ·have H := Hd ((uh E).trans (by rw [if_pos (Or.inr k2)]))
  subst k2
  go_enter Tryz.func31, Tryz.ntmps31
  go_wp2_with (first | (go_at_call 58; refine (l01In_any _ _ _ _).mono ?_; rintro e w' ⟨rfl, rfl⟩) | (go_at_call 59; refine (l02Key_any _ _ (by unfold maxLen; omega)).mono ?_; rintro e w' ⟨rfl, rfl⟩))
  go_ret
  exact ⟨ret_bool (uh H).symm, uh H5 _⟩
 by_cases k3 : k = 3
 ·have H := Hd ((uh E).trans (by rw [if_neg (by omega), if_pos k3]))
  subst k3
  rcases Bool.eq_false_or_eq_true (inB key.size 1 24) with h4 | h4
  ·go_enter Tryz.func31, Tryz.ntmps31
   go_wp2_with (first | (go_at_call 58; refine (l01In_any _ _ _ _).mono ?_; rintro e w' ⟨rfl, rfl⟩) | (go_at_call 59; refine (l02Key_any _ _ (by unfold maxLen; omega)).mono ?_; rintro e w' ⟨rfl, rfl⟩))
   all_goals
    go_ret
    exact ⟨ret_bool (by rw [uh H, h4]; simp [emptyB]), uh H5 _⟩
  ·go_enter Tryz.func31, Tryz.ntmps31
   go_wp2_with (first | (go_at_call 58; refine (l01In_any _ _ _ _).mono ?_; rintro e w' ⟨rfl, rfl⟩) | (go_at_call 59; refine (l02Key_any _ _ (by unfold maxLen; omega)).mono ?_; rintro e w' ⟨rfl, rfl⟩))
   go_ret
   exact ⟨ret_bool (by rw [uh H, h4]; simp), uh H5 _⟩
 by_cases k4 : k = 4 ∨ k = 5
 ·have H := Hd ((uh E).trans (by rw [if_neg (by omega), if_neg k3, if_pos k4]))
  clear E k1 k2 k3
  have H4 := Hd k4
  clear k4
  rcases Bool.eq_false_or_eq_true (emptyB key) with h4 | h4 <;> rcases Bool.eq_false_or_eq_true (emptyB val) with h5 | h5
  all_goals
   unfold emptyB at h4 h5
   rcases uh H4 with k4 | k4
   all_goals
    subst k4
    go_enter Tryz.func31, Tryz.ntmps31
    go_wp2_with (first | (go_at_call 58; refine (l01In_any _ _ _ _).mono ?_; rintro e w' ⟨rfl, rfl⟩) | (go_at_call 59; refine (l02Key_any _ _ (by unfold maxLen; omega)).mono ?_; rintro e w' ⟨rfl, rfl⟩))
    all_goals
     go_ret
     refine ⟨ret_bool ?_, uh H5 _⟩
     rw [uh H]
     simp [emptyB, h4, h5]
     try rfl
 ·have H := Hd ((uh E).trans (by rw [if_neg (by omega), if_neg k3, if_neg k4]))
  have k5 : ¬ k = 4 := by omega
  have k6 : ¬ k = 5 := by omega
  clear k4 E
  go_enter Tryz.func31, Tryz.ntmps31
  go_wp2_with (first | (go_at_call 58; refine (l01In_any _ _ _ _).mono ?_; rintro e w' ⟨rfl, rfl⟩) | (go_at_call 59; refine (l02Key_any _ _ (by unfold maxLen; omega)).mono ?_; rintro e w' ⟨rfl, rfl⟩))
  go_ret
  exact ⟨ret_bool (uh H).symm, uh H5 _⟩
end Go.Proofs.YtnhhnjmjodmacaaGreatDoor
