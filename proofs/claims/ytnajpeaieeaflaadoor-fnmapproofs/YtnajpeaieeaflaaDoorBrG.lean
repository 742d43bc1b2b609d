/- The root of a map: impl's. -/
import Derived.Test.YtnajpeaieeaflaaDoorBrT
import Derived.Test.YtnajpeaieeaflaaDoorBrS
import Derived.Test.YtnajpeaieeaflaaDoorOne
import Derived.Deep.RegionHeldLaw
import Derived.Lib.SlBytesConst
namespace Go.Proofs.YtnajpeaieeaflaaDoor.Sha
open Go.ChangeShapes Go.WideShapes Go.ChangeAt Go.RowKit
set_option linter.unusedVariables false
set_option linter.unusedSimpArgs false

set_option maxRecDepth 100000 in
set_option maxHeartbeats 1000000 in
theorem emptyRoot_any (w : World) (ht : Tab w) : Calls Tryd.prog 51 #[] w fun e w' => e = .returned (.string (hashV [2])) ∧ Below w.heap.size w w' := by
  have B0 := hide ((Below.refl w.heap.size w).alloc (Nat.le_refl _) (.cells #[.int .u8 2] 5 (1, 1 + 1)))
  have hcv := Lib.run_convert_bytes_const (P := Tryd.prog) w 22 5 #[.int .u8 2] 1 1 Tryd.underlying22 Tryd.underlying5
  have hB : Bytes (w.alloc (.cells #[.int .u8 2] 5 (1, 1 + 1))) (.slice (some ⟨w.heap.size, 0, none⟩) 1 1) [2] := by
    refine ⟨_, _, rfl, by unfold maxLen; simp, .inr ⟨w.heap.size, 0, rfl, by simp, fun i hi => ?_⟩, fun i => ?_⟩
    · obtain rfl : i = 0 := by simpa using hi
      have hb : (w.alloc (.cells #[.int .u8 2] 5 (1, 1 + 1))).heap[w.heap.size]? = some (.cells #[.int .u8 2] 5 (1, 1 + 1)) := heap_alloc_new w _
      rw [Nat.zero_add, cell_of_row _ _ _ _ _ _ hb]
      rfl
    · match i with
      | 0 => simp
      | i + 1 => simp
  have HH := hide (implHash_any _ _ _ hB (ht.below (unhide B0)).2 (ht.below (unhide B0)).1)
  clear hB ht
  go_enter Tryd.func51, Tryd.ntmps51
  go_wp2_with fail
  refine (unhide HH).mono ?_
  rintro e w1 ⟨rfl, hb1⟩
  have K := hide ((unhide B0).trans (hb1.mono (unhide B0).size))
  clear hb1
  go_wp2_with fail
  go_ret
  exact ⟨rfl, unhide K⟩
set_option maxRecDepth 100000 in
set_option maxHeartbeats 1000000 in
theorem leafRoot_any (k v : ByteArray) (w : World) (hk : k.size ≤ 24) (hv : v.size ≤ 60) (ht : Tab w) :
    Calls Tryd.prog 52 #[.string k, .string v] w fun e w' => e = .returned (.string (lfR k v)) ∧ Below w.heap.size w w' := by
  have HOB := hide (oneByte_any k.size w (by omega))
  have hs1 : (strOfNums [(k.size : Int)]).size = 1 := strOfNums_size _
  have hsz : (((⟨#[0]⟩ : ByteArray) ++ strOfNums [(k.size : Int)]) ++ k ++ v).size = 2 + k.size + v.size := by
    rw [ByteArray.size_append, ByteArray.size_append, ByteArray.size_append, hs1]; rfl
  have HE : Hid (bytesI (((⟨#[0]⟩ : ByteArray) ++ strOfNums [(k.size : Int)]) ++ k ++ v) = 0 :: (k.size : Int) :: (bytesI k ++ bytesI v)) := hide (by
    rw [bytesI_append, bytesI_append, bytesI_append, bytes_nums1 _ (by omega)]
    rfl)
  have HT := hide ht
  have HST := hide (fun wx => str_bytesB (((⟨#[0]⟩ : ByteArray) ++ strOfNums [(k.size : Int)]) ++ k ++ v) wx (by rw [hsz]; unfold maxLen; omega))
  have HV : Hid (lfR k v = hashV (0 :: (k.size : Int) :: (bytesI k ++ bytesI v))) := rfl
  clear ht
  generalize strOfNums [(k.size : Int)] = s1 at *
  go_enter Tryd.func52, Tryd.ntmps52
  go_wp2_with fail
  refine (unhide HOB).mono ?_
  rintro e w1 ⟨rfl, hb1⟩
  obtain ⟨cap, w2, hcv, hB, hb2⟩ := unhide HST w1
  rw [unhide HE, hsz] at hB
  rw [hsz] at hcv
  have B1 := hide hb1
  have B2 := hide (hb1.trans (hb2.mono hb1.size))
  have HH := hide (implHash_any _ _ w2 hB ((unhide HT).below (unhide B2)).2 ((unhide HT).below (unhide B2)).1)
  clear hb1 hb2 hB HST hsz
  go_wp2_with fail
  refine (unhide HH).mono ?_
  rintro e w3 ⟨rfl, hb3⟩
  have K := hide ((unhide B2).trans (hb3.mono (unhide B2).size))
  clear hb3
  rw [← unhide HV]
  go_wp2_with fail
  go_ret
  exact ⟨rfl, unhide K⟩
set_option maxRecDepth 100000 in
set_option maxHeartbeats 2000000 in
theorem forkRoot_any (a : Nat) (x y : ByteArray) (w : World) (ha : a < 256) (hx : x.size = 32) (hy : y.size = 32) (ht : Tab w) :
    Calls Tryd.prog 53 #[.int .i64 a, .agg #[.string x, .string y]] w fun e w' => e = .returned (.string (fkR a x y)) ∧ Below w.heap.size w w' := by
  have B0 := hide ((Below.refl w.heap.size w).alloc (Nat.le_refl _) (.cells #[.string x, .string y] 81))
  have X0 := hide (Blk.new w #[.string x, .string y] 81 w.heap.size rfl)
  have HOB := hide (fun wx => oneByte_any a wx ha)
  have hs1 : (strOfNums [(a : Int)]).size = 1 := strOfNums_size _
  have hsz : (((⟨#[1]⟩ : ByteArray) ++ strOfNums [(a : Int)]) ++ x ++ y).size = 66 := by
    rw [ByteArray.size_append, ByteArray.size_append, ByteArray.size_append, hs1, hx, hy]; rfl
  have HE : Hid (bytesI (((⟨#[1]⟩ : ByteArray) ++ strOfNums [(a : Int)]) ++ x ++ y) = 1 :: (a : Int) :: (bytesI x ++ bytesI y)) := hide (by
    rw [bytesI_append, bytesI_append, bytesI_append, bytes_nums1 _ ha]
    rfl)
  have HT := hide ht
  have HST := hide (fun wx => str_bytesB (((⟨#[1]⟩ : ByteArray) ++ strOfNums [(a : Int)]) ++ x ++ y) wx (by rw [hsz]; unfold maxLen; omega))
  have HV : Hid (fkR a x y = hashV (1 :: (a : Int) :: (bytesI x ++ bytesI y))) := rfl
  clear ht
  generalize strOfNums [(a : Int)] = s1 at *
  go_enter Tryd.func53, Tryd.ntmps53
  go_wp2_with fail
  generalize w.alloc (.cells #[.string x, .string y] 81) = w0 at *
  have x0 := (unhide X0).cell 0 rfl
  have x1 := (unhide X0).cell 1 rfl
  have hX0 := (unhide X0).1
  have hXw := (unhide B0).size
  go_region_held_law (fun wx => wx.cell? ⟨w.heap.size, 0, none⟩ = some (.string x) ∧ wx.cell? ⟨w.heap.size, 1, none⟩ = some (.string y))
    (first | go_keep | exact ⟨c10, c11⟩ | exact ⟨c20, c21⟩ | exact ⟨c30, c31⟩)
    (first
      | (go_at_call 20; refine (unhide HH).mono ?_; rintro e w3 ⟨rfl, hb3⟩; have c30 := (hb3.cell (p := ⟨w.heap.size, 0, none⟩) hX2).trans c20; have c31 := (hb3.cell (p := ⟨w.heap.size, 1, none⟩) hX2).trans c21)
      | (go_at_call 80; refine (unhide HOB _).mono ?_; rintro e w1 ⟨rfl, hb1⟩; obtain ⟨cap, w2, hcv, hB, hb2⟩ := unhide HST w1; rw [unhide HE, hsz] at hB; rw [hsz] at hcv; have c10 := (hb1.cell (p := ⟨w.heap.size, 0, none⟩) hX0).trans x0; have c11 := (hb1.cell (p := ⟨w.heap.size, 1, none⟩) hX0).trans x1; have hX1 : w.heap.size < w1.heap.size := Nat.lt_of_lt_of_le hX0 hb1.size; have c20 := (hb2.cell (p := ⟨w.heap.size, 0, none⟩) hX1).trans c10; have c21 := (hb2.cell (p := ⟨w.heap.size, 1, none⟩) hX1).trans c11; have hX2 : w.heap.size < w2.heap.size := Nat.lt_of_lt_of_le hX1 hb2.size; have B2 := hide ((below_drewN (unhide B0) 1).trans ((hb1.mono hXw).trans (hb2.mono (Nat.le_of_lt hX1)))); have HH := hide (implHash_any _ _ w2 hB ((unhide HT).below (unhide B2)).2 ((unhide HT).below (unhide B2)).1)))
  have K := hide ((unhide B2).trans (hb3.mono (unhide B2).size))
  rw [← unhide HV]
  clear hb3 hb2 hb1 c10 c11 c20 c21 c30 c31 hcv hB HH
  go_wp2_with fail
  go_ret
  exact ⟨rfl, unhide K⟩
set_option maxRecDepth 100000 in
set_option maxHeartbeats 4000000 in
theorem root_any {w0 : World} {S : Nat → Prop} {p : Nat} {t : Tr} (h : Nd w0 S p t) : TrOK t → ∀ w, Below w0.heap.size w0 w → Tab w →
    Calls Tryd.prog 18 #[.pointer (some ⟨p, 0, none⟩)] w fun e w' => e = .returned (.string (trR t)) ∧ Below w.heap.size w w' := by
  induction h with
  | leaf S p k v hS hb =>
    intro hok w hb0 ht
    have X := hide (hb.below hb0)
    have hk := (okK_iff.1 hok.1).2
    have hv : v.size ≤ 60 := hok.2
    have x0 := (unhide X).cell 0 rfl
    have x1 := (unhide X).cell 1 rfl
    have x3 := (unhide X).cell 3 rfl
    have hX := (unhide X).1
    have HL := hide (leafRoot_any k v w.drew hk hv (ht.below (below_drewN (Below.refl _ w) 1)))
    have HV : Hid (trR (.leaf k v) = lfR k v) := rfl
    clear hb hb0 ht hok
    go_enter Tryd.func18, Tryd.ntmps18
    go_wp2_with fail
    go_region_held3 (fun wx => wx.cell? ⟨p, 0, none⟩ = some (.string k) ∧ wx.cell? ⟨p, 1, none⟩ = some (.string v)) (first | go_keep | exact ⟨(hb2.cell (p := ⟨p, 0, none⟩) hX).trans x0, (hb2.cell (p := ⟨p, 1, none⟩) hX).trans x1⟩) ((go_at_call 52; refine (unhide HL).mono ?_; rintro e w2 ⟨rfl, hb2⟩))
    have K := hide ((below_drewN (Below.refl w.heap.size w) 1).trans hb2)
    rw [← unhide HV]
    clear hb2 x0 x1 x3
    go_wp2_with fail
    go_ret
    exact ⟨rfl, unhide K⟩
  | fork S Sl Sr p a hh l r pl pr hS h1 h2 h3 hb hl hr ihl ihr =>
    intro hok w hb0 ht
    obtain ⟨ha, _, okl, okr⟩ := hok
    have X := hide (hb.below hb0)
    have x3 := (unhide X).cell 3 rfl
    have x4 := (unhide X).cell 4 rfl
    have x5 := (unhide X).cell 5 rfl
    have hX := (unhide X).1
    have HT := hide ht
    have HL := hide (fun wx (hx : Below w.heap.size w wx) => ihl okl wx (hb0.trans (hx.mono hb0.size)) (ht.below hx))
    have HR := hide (fun wx (hx : Below w.heap.size w wx) => ihr okr wx (hb0.trans (hx.mono hb0.size)) (ht.below hx))
    have zl := trR_size l okl
    have zr := trR_size r okr
    have HV : Hid (trR (.fork a hh l r) = fkR a (trR l) (trR r)) := rfl
    have HF := hide (fun wx (hx : Below w.heap.size w wx) => forkRoot_any a (trR l) (trR r) wx ha zl zr (ht.below hx))
    have hab : ((a : Int) == 256) = false := by rw [beq_eq_false_iff_ne]; omega
    clear hb hb0 ht ihl ihr hl hr h1 h2 h3 zl zr
    generalize trR l = rl at *
    generalize trR r = rr at *
    go_enter Tryd.func18, Tryd.ntmps18
    go_wp2_with fail
    go_region_held3 (fun wx => wx.cell? ⟨p, 3, none⟩ = some (.int .i64 a) ∧ wx.cell? ⟨p, 4, none⟩ = some (.pointer (some ⟨pl, 0, none⟩)) ∧ wx.cell? ⟨p, 5, none⟩ = some (.pointer (some ⟨pr, 0, none⟩)))
      (first | go_keep | exact ⟨(hb3.cell (p := ⟨p, 3, none⟩) hX).trans x3, (hb3.cell (p := ⟨p, 4, none⟩) hX).trans x4, (hb3.cell (p := ⟨p, 5, none⟩) hX).trans x5⟩ | exact ⟨(hb2.cell (p := ⟨p, 3, none⟩) hX).trans x3, (hb2.cell (p := ⟨p, 4, none⟩) hX).trans x4, (hb2.cell (p := ⟨p, 5, none⟩) hX).trans x5⟩ | exact ⟨(hb1.cell (p := ⟨p, 3, none⟩) hX).trans x3, (hb1.cell (p := ⟨p, 4, none⟩) hX).trans x4, (hb1.cell (p := ⟨p, 5, none⟩) hX).trans x5⟩)
      (first
        | (go_at_call 53; refine (unhide HF _ hb2).mono ?_; rintro e w3 ⟨rfl, hb3'⟩; have hb3 := hb2.trans (hb3'.mono hb2.size))
        | (go_at_call 18; refine (unhide HR _ hb1).mono ?_; rintro e w2 ⟨rfl, hb2'⟩; have hb2 := hb1.trans (hb2'.mono hb1.size))
        | (go_at_call 18; refine (unhide HL _ ((Below.refl _ w).drew)).mono ?_; rintro e w1 ⟨rfl, hb1'⟩; have hb1 := ((Below.refl _ w).drew).trans hb1'))
    have K := hide hb3
    clear hb1' hb1 hb2' hb2 hb3' hb3 x3 x4 x5
    rw [← unhide HV]
    go_wp2_with fail
    go_ret
    exact ⟨rfl, unhide K⟩
set_option maxRecDepth 100000 in
theorem rootO_any {w : World} {S : Nat → Prop} {pv : Option Addr} {o : Option Tr} (h : PtrM w S pv o) (hok : OkO o) (ht : Tab w) :
    Calls Tryd.prog 18 #[.pointer pv] w fun e w' => e = .returned (.string (rootR o)) ∧ Below w.heap.size w w' := by
  cases o with
  | none =>
    obtain rfl : pv = none := h
    have HE := hide (emptyRoot_any w ht)
    have HV : Hid (rootR none = hashV [2]) := rfl
    clear ht
    go_enter Tryd.func18, Tryd.ntmps18
    go_wp2_with fail
    refine (unhide HE).mono ?_
    rintro e w1 ⟨rfl, hb1⟩
    have K := hide hb1
    clear hb1
    rw [← unhide HV]
    go_wp2_with fail
    go_ret
    exact ⟨rfl, unhide K⟩
  | some t =>
    obtain ⟨p, rfl, hn⟩ := h
    exact root_any hn hok w (Below.refl _ _) ht
/-- What MapRoot answers. -/
def mrOut (b : Br) : Value := match mapV b with
  | none => .tuple #[.string ⟨#[]⟩, .int .i64 1]
  | some o => .tuple #[.string (rootR o), .int .i64 0]
set_option maxRecDepth 100000 in
set_option maxHeartbeats 1000000 in
theorem implMapRoot_any (k v : ByteArray) (a : Int) (ks : List Br) (S : Nat → Prop) (kv : Value) (w : World) (hB : Brs S w kv ks) (hk : k.size ≤ maxLen) (hv : v.size ≤ maxLen) (ht : Tab w) :
    Calls Tryd.prog 6 #[.agg #[.string k, .string v, .int .i64 a, kv]] w fun e w' => e = .returned (mrOut (.mk k v a ks)) ∧ Below w.heap.size w w' := by
  obtain ⟨sa, cap, rfl, hcap, hcm⟩ := hB.shape
  have B0 := hide ((Below.refl w.heap.size w).alloc (Nat.le_refl _) (.cells #[.string k, .string v, .int .i64 a, .slice sa ks.length cap] 25))
  have HR := hide (readMap_any k v a ks S _ _ (hB.blw (unhide B0)) hk hv (ht.below (unhide B0)))
  have HT := hide ht
  have HM := hide (mapB_V (.mk k v a ks))
  have HO : Hid (mrOut (.mk k v a ks) = match mapV (.mk k v a ks) with | none => .tuple #[.string ⟨#[]⟩, .int .i64 1] | some o => .tuple #[.string (rootR o), .int .i64 0]) := rfl
  have HBR := hide (fun o => mapV_br (b := .mk k v a ks) (o := o))
  clear hB ht
  go_enter Tryd.func6, Tryd.ntmps6
  go_wp2_with fail
  refine (unhide HR).mono ?_
  rintro e w2 ⟨pv, rfl, hb, hpm⟩
  have B2 := hide ((unhide B0).trans (hb.mono (unhide B0).size))
  have HP := hide hpm
  clear hb HR hpm
  rw [unhide HM]
  cases hmv : mapV (.mk k v a ks) with
  | none =>
    rw [hmv] at HO
    have HMV := hide hmv
    clear hmv HBR
    rw [show (none : Option (Option Tr)).isSome = false from rfl]
    go_wp2_with fail
    go_ret2
    exact ⟨by rw [unhide HO]; rfl, unhide B2⟩
  | some o =>
    rw [hmv] at HO HP
    have HOK := hide (unhide HBR o hmv).2
    have HRO := hide (rootO_any (unhide HP) (unhide HOK) ((unhide HT).below (unhide B2)))
    clear hmv HBR
    rw [show (some o).isSome = true from rfl]
    go_wp2_with fail
    refine (unhide HRO).mono ?_
    rintro e w3 ⟨rfl, hb3⟩
    have B3 := hide ((unhide B2).trans (hb3.mono (unhide B2).size))
    clear hb3
    go_wp2_with fail
    go_ret2
    exact ⟨by rw [unhide HO]; rfl, unhide B3⟩
end Go.Proofs.YtnajpeaieeaflaaDoor.Sha
