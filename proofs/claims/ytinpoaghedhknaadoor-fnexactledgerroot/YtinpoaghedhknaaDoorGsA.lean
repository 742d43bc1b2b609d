/- Right maps, pure: what a branch that is right looks like; its root. A text of one byte. The root of a map: impl's. The root of a map: the specification's. spec.MapRoot. The hash of a log: treeHash, l06Tree; TreeHash. The root of a ledger: both LedgerRoot. -/
import Derived.Test.YtinpoaghedhknaaDoorBrM
import Derived.Test.YtinpoaghedhknaaDoorMkA
import Derived.Test.YtinpoaghedhknaaDoorBrS
import Derived.Deep.RegionHeldLaw
import Derived.Lib.SlBytesConst
import Derived.Test.YtinpoaghedhknaaDoorBrC
import Derived.Test.YtinpoaghedhknaaDoorMkH
import Derived.Test.YtinpoaghedhknaaDoorLeI
namespace Go.Proofs.YtinpoaghedhknaaDoor.Sha
open Go.ChangeShapes Go.WideShapes Go.ChangeAt Go.RowKit
set_option linter.unusedVariables false

/-- The branch of a right map. -/
def Tr.toBr : Tr → Br
  | .leaf k v => .mk k v 256 []
  | .fork a _ l r => .mk ⟨#[]⟩ ⟨#[]⟩ a [l.toBr, r.toBr]
def TrOK : Tr → Prop
  | .leaf k v => okK k = true ∧ v.size ≤ 60
  | .fork a h l r => a < 256 ∧ h.size = 32 ∧ TrOK l ∧ TrOK r
theorem readV_br : ∀ (n : Nat) (b : Br), SizeOf.sizeOf b ≤ n → ∀ (least : Int) (room : Nat) (t : Tr) (r : Nat), 0 ≤ least → readV b least room = some (t, r) → b = t.toBr ∧ TrOK t := by
  intro n
  induction n with
  | zero => intro b hb; exact absurd hb (by cases b; simp only [Br.mk.sizeOf_spec]; omega)
  | succ n ih =>
    intro b hb least room t r hl h
    obtain ⟨k, v, a, ks⟩ := b
    by_cases ha : a = 256
    · rw [readV_leaf ha] at h
      split at h
      · rename_i hc
        obtain ⟨h1, h2, h3, h4⟩ := hc
        obtain rfl := List.eq_nil_of_length_eq_zero h3
        simp only [Option.some.injEq, Prod.mk.injEq] at h
        obtain ⟨rfl, rfl⟩ := h
        subst ha
        exact ⟨rfl, h1, h2⟩
      · cases h
    · by_cases hc : least ≤ a ∧ a ≤ 255 ∧ ks.length = 2 ∧ k.size = 0 ∧ v.size = 0
      · obtain ⟨b0, b1, rfl⟩ := two_of hc.2.2.1
        rw [readV_fork ⟨hc.1, hc.2.1, hc.2.2.2.1, hc.2.2.2.2⟩] at h
        have z0 := kid_lt (k := k) (v := v) (a := a) (l := [b0, b1]) (b := b0) (by simp)
        have z1 := kid_lt (k := k) (v := v) (a := a) (l := [b0, b1]) (b := b1) (by simp)
        cases h0 : readV b0 (a + 1) room with
        | none => rw [h0] at h; cases h
        | some p0 =>
          obtain ⟨t0, r0⟩ := p0
          rw [h0] at h
          dsimp only at h
          cases h1 : readV b1 (a + 1) r0 with
          | none => rw [h1] at h; cases h
          | some p1 =>
            obtain ⟨t1, r1⟩ := p1
            rw [h1] at h
            dsimp only at h
            split at h
            · simp only [Option.some.injEq, Prod.mk.injEq] at h
              obtain ⟨rfl, rfl⟩ := h
              obtain ⟨e0, o0⟩ := ih b0 (by omega) _ _ _ _ (by omega) h0
              obtain ⟨e1, o1⟩ := ih b1 (by omega) _ _ _ _ (by omega) h1
              refine ⟨?_, by omega, tr_size (by omega) h0, o0, o1⟩
              show Br.mk k v a [b0, b1] = .mk ⟨#[]⟩ ⟨#[]⟩ (a.toNat : Int) [t0.toBr, t1.toBr]
              rw [empty_size hc.2.2.2.1, empty_size hc.2.2.2.2, ← e0, ← e1, show (a.toNat : Int) = a by omega]
            · cases h
      · rw [readV_no ha hc] at h; cases h
/-- The branch of a map, or of an empty one. -/
def brOf : Option Tr → Br
  | none => .mk ⟨#[]⟩ ⟨#[]⟩ 0 []
  | some t => t.toBr
def OkO : Option Tr → Prop
  | none => True
  | some t => TrOK t
theorem mapV_br {b : Br} {o : Option Tr} (h : mapV b = some o) : b = brOf o ∧ OkO o := by
  unfold mapV at h
  split at h
  · rename_i he
    cases h
    obtain ⟨k, v, a, l⟩ := b
    obtain ⟨rfl, rfl, rfl, h4⟩ := (empty_iff k v a l).1 he
    rw [List.eq_nil_of_length_eq_zero h4]
    exact ⟨rfl, trivial⟩
  · cases hr : readV b 0 40 with
    | none => rw [hr] at h; cases h
    | some p =>
      obtain ⟨t, r⟩ := p
      rw [hr] at h
      cases h
      exact readV_br _ b (Nat.le_refl _) 0 40 t r (by omega) hr
/-- The root of a map. -/
def lfR (k v : ByteArray) : ByteArray := hashV (0 :: (k.size : Int) :: (bytesI k ++ bytesI v))
def fkR (a : Nat) (x y : ByteArray) : ByteArray := hashV (1 :: (a : Int) :: (bytesI x ++ bytesI y))
def trR : Tr → ByteArray
  | .leaf k v => lfR k v
  | .fork a _ l r => fkR a (trR l) (trR r)
def rootR : Option Tr → ByteArray
  | none => hashV [2]
  | some t => trR t
theorem lfR_size {k v : ByteArray} (hk : k.size ≤ 24) (hv : v.size ≤ 60) : (lfR k v).size = 32 := hash_size (by simp [bytesI_len]; omega)
theorem fkR_size {a : Nat} {x y : ByteArray} (hx : x.size = 32) (hy : y.size = 32) : (fkR a x y).size = 32 := hash_size (by simp [bytesI_len, hx, hy])
theorem trR_size : ∀ t : Tr, TrOK t → (trR t).size = 32
  | .leaf k v, h => lfR_size (okK_iff.1 h.1).2 h.2
  | .fork a _ l r, h => fkR_size (trR_size l h.2.2.1) (trR_size r h.2.2.2)
theorem not_empty {t : Tr} (h : TrOK t) : emptyBr t.toBr = false := by
  cases t with
  | leaf k v =>
    cases he : emptyBr (Tr.leaf k v).toBr
    · rfl
    · have := (empty_iff k v 256 []).1 he
      omega
  | fork a hh l r =>
    cases he : emptyBr (Tr.fork a hh l r).toBr
    · rfl
    · have := ((empty_iff ⟨#[]⟩ ⟨#[]⟩ a [l.toBr, r.toBr]).1 he).2.2.2
      simp at this
end Go.Proofs.YtinpoaghedhknaaDoor.Sha
namespace Go.Proofs.YtinpoaghedhknaaDoor.Sha
open Go.ChangeShapes Go.WideShapes Go.ChangeAt Go.RowKit
set_option linter.unusedVariables false

theorem bytes_nums1 (x : Nat) (h : x < 256) : bytesI (strOfNums [(x : Int)]) = [(x : Int)] := by
  unfold bytesI strOfNums
  simp
  omega
theorem conv_oneB (w : World) (x : Int) : (convert 80 9 (.slice (some ⟨w.heap.size, 0, none⟩) 1 1)).run Tryd.prog (w.alloc (.cells #[.int .u8 x] 5)) = .ok (.string (strOfNums [x])) (w.alloc (.cells #[.int .u8 x] 5)) :=
  run_convert_bytes_arg (P := Tryd.prog) _ 80 5 Tryd.underlying80 Tryd.underlying5 w.heap.size 0 1 1 [x] rfl (fun i hi => by
    rw [World.cell?_alloc_at _ _ _ _ rfl]
    match i, hi with
    | 0, _ => rfl) 9 Tryd.underlying9
set_option maxRecDepth 100000 in
theorem oneByte_any (n : Nat) (w : World) (hn : n < 256) :
    Calls Tryd.prog 110 #[.int .i64 n] w fun e w' => e = .returned (.string (strOfNums [(n : Int)])) ∧ Below w.heap.size w w' := by
  have hq : IntKind.u8.wrap (n : Int) = (n : Int) := wraps_u8 _ (by omega) (by omega)
  have hcv := conv_oneB w (n : Int)
  have B0 := hide ((Below.refl w.heap.size w).alloc (Nat.le_refl _) (.cells #[.int .u8 n] 5))
  go_enter Tryd.func110, Tryd.ntmps110
  go_wp2_with fail
  go_ret
  exact ⟨rfl, unhide B0⟩
end Go.Proofs.YtinpoaghedhknaaDoor.Sha
namespace Go.Proofs.YtinpoaghedhknaaDoor.Sha
open Go.ChangeShapes Go.WideShapes Go.ChangeAt Go.RowKit
set_option linter.unusedVariables false
set_option linter.unusedSimpArgs false

set_option maxRecDepth 100000 in
set_option maxHeartbeats 1000000 in
theorem emptyRoot_any (w : World) (ht : Tab w) : Calls Tryd.prog 97 #[] w fun e w' => e = .returned (.string (hashV [2])) ∧ Below w.heap.size w w' := by
  have B0 := hide ((Below.refl w.heap.size w).alloc (Nat.le_refl _) (.cells #[.int .u8 2] 5 (1, 1 + 1)))
  have hcv := Lib.run_convert_bytes_const (P := Tryd.prog) w 80 5 #[.int .u8 2] 1 1 Tryd.underlying80 Tryd.underlying5
  have hB : Bytes (w.alloc (.cells #[.int .u8 2] 5 (1, 1 + 1))) (.slice (some ⟨w.heap.size, 0, none⟩) 1 1) [2] := by
    refine ⟨_, _, rfl, by unfold maxLen; simp, .inr ⟨w.heap.size, 0, rfl, by simp, fun i hi => ?_⟩, fun i => ?_⟩
    · obtain rfl : i = 0 := by simpa using hi
      have hb : (w.alloc (.cells #[.int .u8 2] 5 (1, 1 + 1))).heap[w.heap.size]? = some (.cells #[.int .u8 2] 5 (1, 1 + 1)) := heap_alloc_new w _
      rw [Nat.zero_add, cell_of_row _ _ _ _ _ _ hb]
      rfl
    · match i with
      | 0 => simp
      | i + 1 => simp
  have HH := hide (implHash_any _ _ _ hB (ht.below (unhide B0)).2 (ht.below (unhide B0)).1)
  clear hB ht
  go_enter Tryd.func97, Tryd.ntmps97
  go_wp2_with fail
  refine (unhide HH).mono ?_
  rintro e w1 ⟨rfl, hb1⟩
  have K := hide ((unhide B0).trans (hb1.mono (unhide B0).size))
  clear hb1
  go_wp2_with fail
  go_ret
  exact ⟨rfl, unhide K⟩
set_option maxRecDepth 100000 in
set_option maxHeartbeats 1000000 in
theorem leafRoot_any (k v : ByteArray) (w : World) (hk : k.size ≤ 24) (hv : v.size ≤ 60) (ht : Tab w) :
    Calls Tryd.prog 98 #[.string k, .string v] w fun e w' => e = .returned (.string (lfR k v)) ∧ Below w.heap.size w w' := by
  have HOB := hide (oneByte_any k.size w (by omega))
  have hs1 : (strOfNums [(k.size : Int)]).size = 1 := strOfNums_size _
  have hsz : (((⟨#[0]⟩ : ByteArray) ++ strOfNums [(k.size : Int)]) ++ k ++ v).size = 2 + k.size + v.size := by
    rw [ByteArray.size_append, ByteArray.size_append, ByteArray.size_append, hs1]; rfl
  have HE : Hid (bytesI (((⟨#[0]⟩ : ByteArray) ++ strOfNums [(k.size : Int)]) ++ k ++ v) = 0 :: (k.size : Int) :: (bytesI k ++ bytesI v)) := hide (by
    rw [bytesI_append, bytesI_append, bytesI_append, bytes_nums1 _ (by omega)]
    rfl)
  have HT := hide ht
  have HST := hide (fun wx => str_bytesB (((⟨#[0]⟩ : ByteArray) ++ strOfNums [(k.size : Int)]) ++ k ++ v) wx (by rw [hsz]; unfold maxLen; omega))
  have HV : Hid (lfR k v = hashV (0 :: (k.size : Int) :: (bytesI k ++ bytesI v))) := rfl
  clear ht
  generalize strOfNums [(k.size : Int)] = s1 at *
  go_enter Tryd.func98, Tryd.ntmps98
  go_wp2_with fail
  refine (unhide HOB).mono ?_
  rintro e w1 ⟨rfl, hb1⟩
  obtain ⟨cap, w2, hcv, hB, hb2⟩ := unhide HST w1
  rw [unhide HE, hsz] at hB
  rw [hsz] at hcv
  have B1 := hide hb1
  have B2 := hide (hb1.trans (hb2.mono hb1.size))
  have HH := hide (implHash_any _ _ w2 hB ((unhide HT).below (unhide B2)).2 ((unhide HT).below (unhide B2)).1)
  clear hb1 hb2 hB HST hsz
  go_wp2_with fail
  refine (unhide HH).mono ?_
  rintro e w3 ⟨rfl, hb3⟩
  have K := hide ((unhide B2).trans (hb3.mono (unhide B2).size))
  clear hb3
  rw [← unhide HV]
  go_wp2_with fail
  go_ret
  exact ⟨rfl, unhide K⟩
set_option maxRecDepth 100000 in
set_option maxHeartbeats 2000000 in
theorem forkRoot_any (a : Nat) (x y : ByteArray) (w : World) (ha : a < 256) (hx : x.size = 32) (hy : y.size = 32) (ht : Tab w) :
    Calls Tryd.prog 99 #[.int .i64 a, .agg #[.string x, .string y]] w fun e w' => e = .returned (.string (fkR a x y)) ∧ Below w.heap.size w w' := by
  have B0 := hide ((Below.refl w.heap.size w).alloc (Nat.le_refl _) (.cells #[.string x, .string y] 144))
  have X0 := hide (Blk.new w #[.string x, .string y] 144 w.heap.size rfl)
  have HOB := hide (fun wx => oneByte_any a wx ha)
  have hs1 : (strOfNums [(a : Int)]).size = 1 := strOfNums_size _
  have hsz : (((⟨#[1]⟩ : ByteArray) ++ strOfNums [(a : Int)]) ++ x ++ y).size = 66 := by
    rw [ByteArray.size_append, ByteArray.size_append, ByteArray.size_append, hs1, hx, hy]; rfl
  have HE : Hid (bytesI (((⟨#[1]⟩ : ByteArray) ++ strOfNums [(a : Int)]) ++ x ++ y) = 1 :: (a : Int) :: (bytesI x ++ bytesI y)) := hide (by
    rw [bytesI_append, bytesI_append, bytesI_append, bytes_nums1 _ ha]
    rfl)
  have HT := hide ht
  have HST := hide (fun wx => str_bytesB (((⟨#[1]⟩ : ByteArray) ++ strOfNums [(a : Int)]) ++ x ++ y) wx (by rw [hsz]; unfold maxLen; omega))
  have HV : Hid (fkR a x y = hashV (1 :: (a : Int) :: (bytesI x ++ bytesI y))) := rfl
  clear ht
  generalize strOfNums [(a : Int)] = s1 at *
  go_enter Tryd.func99, Tryd.ntmps99
  go_wp2_with fail
  generalize w.alloc (.cells #[.string x, .string y] 144) = w0 at *
  have x0 := (unhide X0).cell 0 rfl
  have x1 := (unhide X0).cell 1 rfl
  have hX0 := (unhide X0).1
  have hXw := (unhide B0).size
  go_region_held_law (fun wx => wx.cell? ⟨w.heap.size, 0, none⟩ = some (.string x) ∧ wx.cell? ⟨w.heap.size, 1, none⟩ = some (.string y))
    (first | go_keep | exact ⟨c10, c11⟩ | exact ⟨c20, c21⟩ | exact ⟨c30, c31⟩)
    (first
      | (go_at_call 48; refine (unhide HH).mono ?_; rintro e w3 ⟨rfl, hb3⟩; have c30 := (hb3.cell (p := ⟨w.heap.size, 0, none⟩) hX2).trans c20; have c31 := (hb3.cell (p := ⟨w.heap.size, 1, none⟩) hX2).trans c21)
      | (go_at_call 110; refine (unhide HOB _).mono ?_; rintro e w1 ⟨rfl, hb1⟩; obtain ⟨cap, w2, hcv, hB, hb2⟩ := unhide HST w1; rw [unhide HE, hsz] at hB; rw [hsz] at hcv; have c10 := (hb1.cell (p := ⟨w.heap.size, 0, none⟩) hX0).trans x0; have c11 := (hb1.cell (p := ⟨w.heap.size, 1, none⟩) hX0).trans x1; have hX1 : w.heap.size < w1.heap.size := Nat.lt_of_lt_of_le hX0 hb1.size; have c20 := (hb2.cell (p := ⟨w.heap.size, 0, none⟩) hX1).trans c10; have c21 := (hb2.cell (p := ⟨w.heap.size, 1, none⟩) hX1).trans c11; have hX2 : w.heap.size < w2.heap.size := Nat.lt_of_lt_of_le hX1 hb2.size; have B2 := hide ((below_drewN (unhide B0) 1).trans ((hb1.mono hXw).trans (hb2.mono (Nat.le_of_lt hX1)))); have HH := hide (implHash_any _ _ w2 hB ((unhide HT).below (unhide B2)).2 ((unhide HT).below (unhide B2)).1)))
  have K := hide ((unhide B2).trans (hb3.mono (unhide B2).size))
  rw [← unhide HV]
  clear hb3 hb2 hb1 c10 c11 c20 c21 c30 c31 hcv hB HH
  go_wp2_with fail
  go_ret
  exact ⟨rfl, unhide K⟩
set_option maxRecDepth 100000 in
set_option maxHeartbeats 4000000 in
theorem root_any {w0 : World} {S : Nat → Prop} {p : Nat} {t : Tr} (h : Nd w0 S p t) : TrOK t → ∀ w, Below w0.heap.size w0 w → Tab w →
    Calls Tryd.prog 77 #[.pointer (some ⟨p, 0, none⟩)] w fun e w' => e = .returned (.string (trR t)) ∧ Below w.heap.size w w' := by
  induction h with
  | leaf S p k v hS hb =>
    intro hok w hb0 ht
    have X := hide (hb.below hb0)
    have hk := (okK_iff.1 hok.1).2
    have hv : v.size ≤ 60 := hok.2
    have x0 := (unhide X).cell 0 rfl
    have x1 := (unhide X).cell 1 rfl
    have x3 := (unhide X).cell 3 rfl
    have hX := (unhide X).1
    have HL := hide (leafRoot_any k v w.drew hk hv (ht.below (below_drewN (Below.refl _ w) 1)))
    have HV : Hid (trR (.leaf k v) = lfR k v) := rfl
    clear hb hb0 ht hok
    go_enter Tryd.func77, Tryd.ntmps77
    go_wp2_with fail
    go_region_held3 (fun wx => wx.cell? ⟨p, 0, none⟩ = some (.string k) ∧ wx.cell? ⟨p, 1, none⟩ = some (.string v)) (first | go_keep | exact ⟨(hb2.cell (p := ⟨p, 0, none⟩) hX).trans x0, (hb2.cell (p := ⟨p, 1, none⟩) hX).trans x1⟩) ((go_at_call 98; refine (unhide HL).mono ?_; rintro e w2 ⟨rfl, hb2⟩))
    have K := hide ((below_drewN (Below.refl w.heap.size w) 1).trans hb2)
    rw [← unhide HV]
    clear hb2 x0 x1 x3
    go_wp2_with fail
    go_ret
    exact ⟨rfl, unhide K⟩
  | fork S Sl Sr p a hh l r pl pr hS h1 h2 h3 hb hl hr ihl ihr =>
    intro hok w hb0 ht
    obtain ⟨ha, _, okl, okr⟩ := hok
    have X := hide (hb.below hb0)
    have x3 := (unhide X).cell 3 rfl
    have x4 := (unhide X).cell 4 rfl
    have x5 := (unhide X).cell 5 rfl
    have hX := (unhide X).1
    have HT := hide ht
    have HL := hide (fun wx (hx : Below w.heap.size w wx) => ihl okl wx (hb0.trans (hx.mono hb0.size)) (ht.below hx))
    have HR := hide (fun wx (hx : Below w.heap.size w wx) => ihr okr wx (hb0.trans (hx.mono hb0.size)) (ht.below hx))
    have zl := trR_size l okl
    have zr := trR_size r okr
    have HV : Hid (trR (.fork a hh l r) = fkR a (trR l) (trR r)) := rfl
    have HF := hide (fun wx (hx : Below w.heap.size w wx) => forkRoot_any a (trR l) (trR r) wx ha zl zr (ht.below hx))
    have hab : ((a : Int) == 256) = false := by rw [beq_eq_false_iff_ne]; omega
    clear hb hb0 ht ihl ihr hl hr h1 h2 h3 zl zr
    generalize trR l = rl at *
    generalize trR r = rr at *
    go_enter Tryd.func77, Tryd.ntmps77
    go_wp2_with fail
    go_region_held3 (fun wx => wx.cell? ⟨p, 3, none⟩ = some (.int .i64 a) ∧ wx.cell? ⟨p, 4, none⟩ = some (.pointer (some ⟨pl, 0, none⟩)) ∧ wx.cell? ⟨p, 5, none⟩ = some (.pointer (some ⟨pr, 0, none⟩)))
      (first | go_keep | exact ⟨(hb3.cell (p := ⟨p, 3, none⟩) hX).trans x3, (hb3.cell (p := ⟨p, 4, none⟩) hX).trans x4, (hb3.cell (p := ⟨p, 5, none⟩) hX).trans x5⟩ | exact ⟨(hb2.cell (p := ⟨p, 3, none⟩) hX).trans x3, (hb2.cell (p := ⟨p, 4, none⟩) hX).trans x4, (hb2.cell (p := ⟨p, 5, none⟩) hX).trans x5⟩ | exact ⟨(hb1.cell (p := ⟨p, 3, none⟩) hX).trans x3, (hb1.cell (p := ⟨p, 4, none⟩) hX).trans x4, (hb1.cell (p := ⟨p, 5, none⟩) hX).trans x5⟩)
      (first
        | (go_at_call 99; refine (unhide HF _ hb2).mono ?_; rintro e w3 ⟨rfl, hb3'⟩; have hb3 := hb2.trans (hb3'.mono hb2.size))
        | (go_at_call 77; refine (unhide HR _ hb1).mono ?_; rintro e w2 ⟨rfl, hb2'⟩; have hb2 := hb1.trans (hb2'.mono hb1.size))
        | (go_at_call 77; refine (unhide HL _ ((Below.refl _ w).drew)).mono ?_; rintro e w1 ⟨rfl, hb1'⟩; have hb1 := ((Below.refl _ w).drew).trans hb1'))
    have K := hide hb3
    clear hb1' hb1 hb2' hb2 hb3' hb3 x3 x4 x5
    rw [← unhide HV]
    go_wp2_with fail
    go_ret
    exact ⟨rfl, unhide K⟩
set_option maxRecDepth 100000 in
theorem rootO_any {w : World} {S : Nat → Prop} {pv : Option Addr} {o : Option Tr} (h : PtrM w S pv o) (hok : OkO o) (ht : Tab w) :
    Calls Tryd.prog 77 #[.pointer pv] w fun e w' => e = .returned (.string (rootR o)) ∧ Below w.heap.size w w' := by
  cases o with
  | none =>
    obtain rfl : pv = none := h
    have HE := hide (emptyRoot_any w ht)
    have HV : Hid (rootR none = hashV [2]) := rfl
    clear ht
    go_enter Tryd.func77, Tryd.ntmps77
    go_wp2_with fail
    refine (unhide HE).mono ?_
    rintro e w1 ⟨rfl, hb1⟩
    have K := hide hb1
    clear hb1
    rw [← unhide HV]
    go_wp2_with fail
    go_ret
    exact ⟨rfl, unhide K⟩
  | some t =>
    obtain ⟨p, rfl, hn⟩ := h
    exact root_any hn hok w (Below.refl _ _) ht
end Go.Proofs.YtinpoaghedhknaaDoor.Sha
namespace Go.Proofs.YtinpoaghedhknaaDoor.Sha
open Go.ChangeShapes Go.WideShapes Go.ChangeAt Go.RowKit
set_option linter.unusedVariables false
set_option linter.unusedSimpArgs false

theorem range_two {x y : Int} {xs : List Int} (h0 : 0 ≤ x) (h1 : x ≤ 255) (h2 : 0 ≤ y) (h3 : y ≤ 255) (h : ∀ i, 0 ≤ xs.getD i 0 ∧ xs.getD i 0 ≤ 255) : ∀ i, 0 ≤ (x :: y :: xs).getD i 0 ∧ (x :: y :: xs).getD i 0 ≤ 255 := range_cons h0 h1 (range_cons h2 h3 h)
theorem l01Hash_two (x y : Int) (a b : ByteArray) (g cap : Nat) (w : World) (ha : a.size ≤ 60) (hb : b.size ≤ 60) (h : Bytes w (.slice (some ⟨g, 0, none⟩) (2 + a.size + b.size) cap) (x :: y :: (bytesI a ++ bytesI b))) :
    Calls Tryd.prog 37 #[.slice (some ⟨g, 0, none⟩) (2 + a.size + b.size) cap] w fun e w' => e = .returned (.string (hashV (x :: y :: (bytesI a ++ bytesI b)))) ∧ Below w.heap.size w w' := by
  have hl : (x :: y :: (bytesI a ++ bytesI b)).length = 2 + a.size + b.size := by simp [bytesI_len]; omega
  rw [hashV_yes (by omega)]
  rw [← hl] at h ⊢
  exact l01Hash_any _ _ _ w h (by omega)
set_option maxRecDepth 100000 in
set_option maxHeartbeats 1000000 in
theorem l07LeafHash_any (a b : ByteArray) (w : World) (ha : a.size ≤ 24) (hb : b.size ≤ 60) :
    Calls Tryd.prog 65 #[.string a, .string b] w fun e w' => e = .returned (.string (lfR a b)) ∧ Below w.heap.size w w' := by
  obtain ⟨i0, hi, hz0, hz1, hz2⟩ := info_parts info5
  have hq : IntKind.u8.wrap (a.size : Int) = (a.size : Int) := wraps_u8 _ (by omega) (by omega)
  have O0 : Hid ((w.alloc (.cells #[.int .u8 0, .int .u8 a.size] 5)).ownsRow w.heap.size 5 1 (.slice (some ⟨w.heap.size, 0, none⟩) 2 2) 2 [.int .u8 0, .int .u8 a.size]) := hide (own_lit (heap_new rfl) (Nat.le_refl _) rfl (by unfold maxLen; omega))
  have B0 := hide ((Below.refl w.heap.size w).alloc (Nat.le_refl _) (.cells #[.int .u8 0, .int .u8 a.size] 5))
  have HV : Hid (lfR a b = hashV (0 :: (a.size : Int) :: (bytesI a ++ bytesI b))) := rfl
  go_enter Tryd.func65, Tryd.ntmps65
  go_wp2_with (at_builtin; first
    | (refine wpList_append_str _ rfl _ _ _ _ rfl w.heap.size 5 i0 Tryd.underlying80 Tryd.underlying9 hi hz0 hz1 hz2 _ (2 + a.size) _ rfl (unhide O1) b rfl (by omega) (by omega) (by have := (unhide B1).size; omega) ?_; intro g2 cap2 w2 hown2 hgrow2 hat2; have O2 := hide hown2; have B2 := hide ((unhide B1).grown hgrow2 (by have := (unhide B1).size; omega) (fun r hr => ((unhide O1).lt r hr).1)); clear hown2 hgrow2 hat2)
    | (refine wpList_append_str _ rfl _ _ _ _ rfl w.heap.size 5 i0 Tryd.underlying80 Tryd.underlying9 hi hz0 hz1 hz2 _ 2 _ rfl (unhide O0) a rfl (by omega) (by omega) (by simp) ?_; intro g1 cap1 w1 hown1 hgrow1 hat1; have O1 := hide hown1; have B1 := hide ((unhide B0).grown hgrow1 (by simp) (fun r hr => ((unhide O0).lt r hr).1)); clear hown1 hgrow1 hat1))
  have hx : Bytes w2 (.slice (some ⟨g2, 0, none⟩) (2 + a.size + b.size) cap2) (0 :: (a.size : Int) :: (bytesI a ++ bytesI b)) := by
    have hl : (0 :: (a.size : Int) :: (bytesI a ++ bytesI b)).length = 2 + a.size + b.size := by simp [bytesI_len]; omega
    rw [← hl]
    refine OwnB.bytes (B := w.heap.size) ⟨?_, range_two (by omega) (by omega) (by omega) (by omega) (range_append (bytesI_range a) (bytesI_range b))⟩
    have h := unhide O2
    rw [strCells_eq, strCells_eq] at h
    rw [hl]
    simpa using h
  have HL := hide (l01Hash_two _ _ a b g2 cap2 w2 (by omega) (by omega) hx)
  clear hx
  refine (unhide HL).mono ?_
  rintro e w3 ⟨rfl, hb3⟩
  have K := hide ((unhide B2).trans (hb3.mono (unhide B2).size))
  clear hb3
  rw [← unhide HV]
  go_wp2_with fail
  go_ret
  exact ⟨rfl, unhide K⟩
set_option maxRecDepth 100000 in
set_option maxHeartbeats 1000000 in
theorem l07ForkHash_any (n : Nat) (a b : ByteArray) (w : World) (hn : n < 256) (ha : a.size = 32) (hb : b.size = 32) :
    Calls Tryd.prog 66 #[.int .i64 n, .string a, .string b] w fun e w' => e = .returned (.string (fkR n a b)) ∧ Below w.heap.size w w' := by
  obtain ⟨i0, hi, hz0, hz1, hz2⟩ := info_parts info5
  have hq : IntKind.u8.wrap (n : Int) = (n : Int) := wraps_u8 _ (by omega) (by omega)
  have O0 : Hid ((w.alloc (.cells #[.int .u8 1, .int .u8 n] 5)).ownsRow w.heap.size 5 1 (.slice (some ⟨w.heap.size, 0, none⟩) 2 2) 2 [.int .u8 1, .int .u8 n]) := hide (own_lit (heap_new rfl) (Nat.le_refl _) rfl (by unfold maxLen; omega))
  have B0 := hide ((Below.refl w.heap.size w).alloc (Nat.le_refl _) (.cells #[.int .u8 1, .int .u8 n] 5))
  have HV : Hid (fkR n a b = hashV (1 :: (n : Int) :: (bytesI a ++ bytesI b))) := rfl
  have ha2 : a.size ≤ 32 := by omega
  have hb2 : b.size ≤ 32 := by omega
  clear ha hb
  go_enter Tryd.func66, Tryd.ntmps66
  go_wp2_with (at_builtin; first
    | (refine wpList_append_str _ rfl _ _ _ _ rfl w.heap.size 5 i0 Tryd.underlying80 Tryd.underlying9 hi hz0 hz1 hz2 _ (2 + a.size) _ rfl (unhide O1) b rfl (by omega) (by omega) (by have := (unhide B1).size; omega) ?_; intro g2 cap2 w2 hown2 hgrow2 hat2; have O2 := hide hown2; have B2 := hide ((unhide B1).grown hgrow2 (by have := (unhide B1).size; omega) (fun r hr => ((unhide O1).lt r hr).1)); clear hown2 hgrow2 hat2)
    | (refine wpList_append_str _ rfl _ _ _ _ rfl w.heap.size 5 i0 Tryd.underlying80 Tryd.underlying9 hi hz0 hz1 hz2 _ 2 _ rfl (unhide O0) a rfl (by omega) (by omega) (by simp) ?_; intro g1 cap1 w1 hown1 hgrow1 hat1; have O1 := hide hown1; have B1 := hide ((unhide B0).grown hgrow1 (by simp) (fun r hr => ((unhide O0).lt r hr).1)); clear hown1 hgrow1 hat1))
  have hx : Bytes w2 (.slice (some ⟨g2, 0, none⟩) (2 + a.size + b.size) cap2) (1 :: (n : Int) :: (bytesI a ++ bytesI b)) := by
    have hl : (1 :: (n : Int) :: (bytesI a ++ bytesI b)).length = 2 + a.size + b.size := by simp [bytesI_len]; omega
    rw [← hl]
    refine OwnB.bytes (B := w.heap.size) ⟨?_, range_two (by omega) (by omega) (by omega) (by omega) (range_append (bytesI_range a) (bytesI_range b))⟩
    have h := unhide O2
    rw [strCells_eq, strCells_eq] at h
    rw [hl]
    simpa using h
  have HL := hide (l01Hash_two _ _ a b g2 cap2 w2 (by omega) (by omega) hx)
  clear hx
  refine (unhide HL).mono ?_
  rintro e w3 ⟨rfl, hb3⟩
  have K := hide ((unhide B2).trans (hb3.mono (unhide B2).size))
  clear hb3
  rw [← unhide HV]
  go_wp2_with fail
  go_ret
  exact ⟨rfl, unhide K⟩
set_option maxRecDepth 100000 in
set_option maxHeartbeats 4000000 in
theorem l07Root_any : ∀ (t : Tr), TrOK t → ∀ (S : Nat → Prop) (kv : Value) (w : World), Brs S w kv t.toBr.kids →
    Calls Tryd.prog 39 #[.agg #[.string t.toBr.key, .string t.toBr.val, .int .i64 t.toBr.at_, kv]] w fun e w' => e = .returned (.string (trR t)) ∧ Below w.heap.size w w' := by
  intro t
  induction t with
  | leaf k v =>
    intro hok S kv w hB
    obtain ⟨sa, cap, rfl, _, hcm⟩ := hB.shape
    have HNE := not_empty hok
    have hk := (okK_iff.1 hok.1).2
    have hv : v.size ≤ 60 := hok.2
    dsimp only [Tr.toBr, Br.key, Br.val, Br.at_, Br.kids] at HNE ⊢
    have B0 := hide ((Below.refl w.heap.size w).alloc (Nat.le_refl _) (.cells #[.string k, .string v, .int .i64 256, .slice sa 0 cap] 34))
    have X0 := hide (Blk.new w #[.string k, .string v, .int .i64 256, .slice sa 0 cap] 34 w.heap.size rfl)
    have HE := hide (fun wx => l07Empty_any k v 256 [] sa cap wx (by simp))
    have HLF := hide (fun wx => l07Leaf_any k v 256 sa 0 cap wx (by omega))
    rw [HNE] at HE
    simp only [List.length_nil] at HE
    rw [show decide (0 = 0) = true from rfl] at HLF
    have HLH := hide (fun wx => l07LeafHash_any k v wx hk hv)
    have HV : Hid (trR (.leaf k v) = lfR k v) := rfl
    clear hB hok HNE
    go_enter Tryd.func39, Tryd.ntmps39
    go_wp2_with fail
    generalize w.alloc (.cells #[.string k, .string v, .int .i64 256, .slice sa 0 cap] 34) = w1 at *
    refine (unhide HE w1).mono ?_
    rintro e w2 ⟨rfl, hb2⟩
    have B2 := hide ((unhide B0).trans (hb2.mono (unhide B0).size))
    have X2 := hide ((unhide X0).below hb2)
    clear hb2
    have x0 := (unhide X2).cell 0 rfl
    have x1 := (unhide X2).cell 1 rfl
    have x2 := (unhide X2).cell 2 rfl
    have x3 := (unhide X2).cell 3 rfl
    go_wp2_with fail
    refine (unhide HLF w2).mono ?_
    rintro e w3 ⟨rfl, hb3⟩
    have B3 := hide ((unhide B2).trans (hb3.mono (unhide B2).size))
    have X3 := hide ((unhide X2).below hb3)
    clear hb3 x0 x1 x2 x3
    have x0 := (unhide X3).cell 0 rfl
    have x1 := (unhide X3).cell 1 rfl
    go_wp2_with fail
    refine (unhide HLH w3).mono ?_
    rintro e w4 ⟨rfl, hb4⟩
    have B4 := hide ((unhide B3).trans (hb4.mono (unhide B3).size))
    clear hb4
    rw [← unhide HV]
    go_wp2_with fail
    go_ret
    exact ⟨rfl, unhide B4⟩
  | fork a hh l r ihl ihr =>
    intro hok S kv w hB
    obtain ⟨sa, cap, rfl, _, hcm⟩ := hB.shape
    have HNE := not_empty hok
    obtain ⟨ha, _, okl, okr⟩ := hok
    dsimp only [Tr.toBr, Br.key, Br.val, Br.at_, Br.kids] at HNE hB ⊢
    have B0 := hide ((Below.refl w.heap.size w).alloc (Nat.le_refl _) (.cells #[.string ⟨#[]⟩, .string ⟨#[]⟩, .int .i64 a, .slice sa 2 cap] 34))
    have X0 := hide (Blk.new w #[.string ⟨#[]⟩, .string ⟨#[]⟩, .int .i64 a, .slice sa 2 cap] 34 w.heap.size rfl)
    have HE := hide (fun wx => l07Empty_any ⟨#[]⟩ ⟨#[]⟩ a [l.toBr, r.toBr] sa cap wx (by unfold maxLen; simp))
    have HLF := hide (fun wx => l07Leaf_any ⟨#[]⟩ ⟨#[]⟩ a sa 2 cap wx (by unfold maxLen; omega))
    rw [HNE] at HE
    rw [show decide (2 = 0) = false from rfl] at HLF
    obtain ⟨bb, off, kvf, rfl, _, hat⟩ := hB.at (by simp)
    have hbb := hat.lt
    obtain ⟨s00, s01, s02, s03⟩ := hat.cells 0 (by simp)
    obtain ⟨s10, s11, s12, s13⟩ := hat.cells 1 (by simp)
    have K0 := hide (hat.kids 0 (by simp))
    have K1 := hide (hat.kids 1 (by simp))
    simp only [List.getD_cons_zero, List.getD_cons_succ, Nat.zero_mul, Nat.add_zero, Nat.one_mul] at s00 s01 s02 s03 s10 s11 s12 s13 K0 K1
    obtain ⟨ka0, kc0, hkv0, _, _⟩ := (unhide K0).shape
    obtain ⟨ka1, kc1, hkv1, _, _⟩ := (unhide K1).shape
    rw [hkv0] at K0 s03
    rw [hkv1] at K1 s13
    have HL := hide (fun wx (hx : Below w.heap.size w wx) => ihl okl S _ wx ((unhide K0).blw hx))
    have HR := hide (fun wx (hx : Below w.heap.size w wx) => ihr okr S _ wx ((unhide K1).blw hx))
    have HF := hide (fun wx => l07ForkHash_any a (trR l) (trR r) wx ha (trR_size l okl) (trR_size r okr))
    have HV : Hid (trR (.fork a hh l r) = fkR a (trR l) (trR r)) := rfl
    clear hB hat hkv0 hkv1 K0 K1 ihl ihr HNE
    generalize l.toBr = b0 at *
    generalize r.toBr = b1 at *
    generalize trR l = rl at *
    generalize trR r = rr at *
    simp only [List.length_cons, List.length_nil] at HE
    go_enter Tryd.func39, Tryd.ntmps39
    go_wp2_with fail
    generalize w.alloc (.cells #[.string ⟨#[]⟩, .string ⟨#[]⟩, .int .i64 a, .slice (some ⟨bb, off, none⟩) 2 cap] 34) = w1 at *
    refine (unhide HE w1).mono ?_
    rintro e w2 ⟨rfl, hb2⟩
    have B2 := hide ((unhide B0).trans (hb2.mono (unhide B0).size))
    have X2 := hide ((unhide X0).below hb2)
    clear hb2
    have x0 := (unhide X2).cell 0 rfl
    have x1 := (unhide X2).cell 1 rfl
    have x2 := (unhide X2).cell 2 rfl
    have x3 := (unhide X2).cell 3 rfl
    go_wp2_with fail
    refine (unhide HLF w2).mono ?_
    rintro e w3 ⟨rfl, hb3⟩
    have B3 := hide ((unhide B2).trans (hb3.mono (unhide B2).size))
    have X3 := hide ((unhide X2).below hb3)
    clear hb3 x0 x1 x2 x3
    have hX := (unhide X3).1
    have hw3 := (unhide B3).size
    have HSX : Hid (∀ wx, Below w3.heap.size w3 wx → wx.cell? ⟨w.heap.size, 2, none⟩ = some (.int .i64 a) ∧ wx.cell? ⟨w.heap.size, 3, none⟩ = some (.slice (some ⟨bb, off, none⟩) 2 cap) ∧ wx.cell? ⟨bb, off, none⟩ = some (.string b0.key) ∧ wx.cell? ⟨bb, off + 1, none⟩ = some (.string b0.val) ∧ wx.cell? ⟨bb, off + 2, none⟩ = some (.int .i64 b0.at_) ∧ wx.cell? ⟨bb, off + 3, none⟩ = some (.slice ka0 b0.kids.length kc0) ∧ wx.cell? ⟨bb, off + 4, none⟩ = some (.string b1.key) ∧ wx.cell? ⟨bb, off + 4 + 1, none⟩ = some (.string b1.val) ∧ wx.cell? ⟨bb, off + 4 + 2, none⟩ = some (.int .i64 b1.at_) ∧ wx.cell? ⟨bb, off + 4 + 3, none⟩ = some (.slice ka1 b1.kids.length kc1)) := hide (fun wx hb => by
      have hb' := (unhide B3).trans (hb.mono hw3)
      have X := (unhide X3).below hb
      exact ⟨X.cell 2 rfl, X.cell 3 rfl, (hb'.cell (p := ⟨bb, off, none⟩) hbb).trans s00, (hb'.cell (p := ⟨bb, off + 1, none⟩) hbb).trans s01, (hb'.cell (p := ⟨bb, off + 2, none⟩) hbb).trans s02, (hb'.cell (p := ⟨bb, off + 3, none⟩) hbb).trans s03, (hb'.cell (p := ⟨bb, off + 4, none⟩) hbb).trans s10, (hb'.cell (p := ⟨bb, off + 4 + 1, none⟩) hbb).trans s11, (hb'.cell (p := ⟨bb, off + 4 + 2, none⟩) hbb).trans s12, (hb'.cell (p := ⟨bb, off + 4 + 3, none⟩) hbb).trans s13⟩)
    obtain ⟨y2, y3, t00, t01, t02, t03, t10, t11, t12, t13⟩ := unhide HSX w3 (Below.refl _ _)
    clear s00 s01 s02 s03 s10 s11 s12 s13
    go_wp2_with fail
    go_region_held3 (fun wx => wx.cell? ⟨w.heap.size, 2, none⟩ = some (.int .i64 a) ∧ wx.cell? ⟨w.heap.size, 3, none⟩ = some (.slice (some ⟨bb, off, none⟩) 2 cap) ∧ wx.cell? ⟨bb, off, none⟩ = some (.string b0.key) ∧ wx.cell? ⟨bb, off + 1, none⟩ = some (.string b0.val) ∧ wx.cell? ⟨bb, off + 2, none⟩ = some (.int .i64 b0.at_) ∧ wx.cell? ⟨bb, off + 3, none⟩ = some (.slice ka0 b0.kids.length kc0) ∧ wx.cell? ⟨bb, off + 4, none⟩ = some (.string b1.key) ∧ wx.cell? ⟨bb, off + 4 + 1, none⟩ = some (.string b1.val) ∧ wx.cell? ⟨bb, off + 4 + 2, none⟩ = some (.int .i64 b1.at_) ∧ wx.cell? ⟨bb, off + 4 + 3, none⟩ = some (.slice ka1 b1.kids.length kc1)) (first | go_keep | exact unhide HSX _ hc3 | exact unhide HSX _ hc2 | exact unhide HSX _ hc1) (first
      | (go_at_call 66; refine (unhide HF w5).mono ?_; rintro e w6 ⟨rfl, hb6⟩; have hc3 := hc2.trans (hb6.mono hc2.size))
      | (go_at_call 39; refine (unhide HR _ ((unhide B3).trans (hc1.mono hw3))).mono ?_; rintro e w5 ⟨rfl, hb5⟩; have hc2 := hc1.trans (hb5.mono hc1.size))
      | (go_at_call 39; refine (unhide HL _ ((unhide B3).trans (((Below.refl _ w3).drew).mono hw3))).mono ?_; rintro e w4 ⟨rfl, hb4⟩; have hc1 : Below w3.heap.size w3 w4 := ((Below.refl _ w3).drew).trans hb4))
    have K := hide ((unhide B3).trans (hc3.mono hw3))
    clear hb4 hb5 hb6 hc1 hc2 hc3 y2 y3 t00 t01 t02 t03 t10 t11 t12 t13
    rw [← unhide HV]
    go_wp2_with fail
    go_ret
    exact ⟨rfl, unhide K⟩
end Go.Proofs.YtinpoaghedhknaaDoor.Sha
namespace Go.Proofs.YtinpoaghedhknaaDoor.Sha
open Go.ChangeShapes Go.WideShapes Go.ChangeAt Go.RowKit
set_option linter.unusedVariables false
set_option linter.unusedSimpArgs false

set_option maxRecDepth 100000 in
set_option maxHeartbeats 1000000 in
theorem l07RootO_any (o : Option Tr) (hok : OkO o) (S : Nat → Prop) (kv : Value) (w : World) (hB : Brs S w kv (brOf o).kids) :
    Calls Tryd.prog 39 #[.agg #[.string (brOf o).key, .string (brOf o).val, .int .i64 (brOf o).at_, kv]] w fun e w' => e = .returned (.string (rootR o)) ∧ Below w.heap.size w w' := by
  cases o with
  | some t => exact l07Root_any t hok S kv w hB
  | none =>
    obtain ⟨sa, cap, rfl, _, hcm⟩ := hB.shape
    dsimp only [brOf, Br.key, Br.val, Br.at_, Br.kids] at hB ⊢
    have B0 := hide ((Below.refl w.heap.size w).alloc (Nat.le_refl _) (.cells #[.string ⟨#[]⟩, .string ⟨#[]⟩, .int .i64 0, .slice sa 0 cap] 34))
    have HE := hide (fun wx => l07Empty_any ⟨#[]⟩ ⟨#[]⟩ 0 [] sa cap wx (by simp))
    have he : emptyBr (.mk ⟨#[]⟩ ⟨#[]⟩ 0 []) = true := (empty_iff _ _ _ _).2 ⟨rfl, rfl, rfl, rfl⟩
    rw [he] at HE
    simp only [List.length_nil] at HE
    have HV : Hid (rootR none = strOfNums (textL (stAt [2] (padLen ([2] : List Int).length / 64)))) := hide (hashV_yes (l := [2]) (by simp))
    clear hB he
    go_enter Tryd.func39, Tryd.ntmps39
    go_wp2_with fail
    generalize w.alloc (.cells #[.string ⟨#[]⟩, .string ⟨#[]⟩, .int .i64 0, .slice sa 0 cap] 34) = w1 at *
    refine (unhide HE w1).mono ?_
    rintro e w2 ⟨rfl, hb2⟩
    have B2 := hide ((unhide B0).trans (hb2.mono (unhide B0).size))
    have hBy : Bytes (w2.alloc (.cells #[.int .u8 2] 5)) (.slice (some ⟨w2.heap.size, 0, none⟩) ([2] : List Int).length 1) [2] := by
      refine OwnB.bytes (B := w2.heap.size) ⟨own_lit (heap_new rfl) (Nat.le_refl _) rfl (by unfold maxLen; simp), fun i => ?_⟩
      match i with
      | 0 => simp
      | i + 1 => simp
    have HL := hide (l01Hash_any _ _ [2] _ hBy (by simp))
    have B3 := hide ((unhide B2).alloc (unhide B2).size (.cells #[.int .u8 2] 5))
    have hl1 : ([2] : List Int).length = 1 := rfl
    rw [hl1] at HL HV
    clear hb2 hBy hl1
    go_wp2_with fail
    refine (unhide HL).mono ?_
    rintro e w3 ⟨rfl, hb3⟩
    have K := hide ((unhide B3).trans (hb3.mono (unhide B3).size))
    clear hb3
    rw [← unhide HV]
    go_wp2_with fail
    go_ret
    exact ⟨rfl, unhide K⟩
end Go.Proofs.YtinpoaghedhknaaDoor.Sha
namespace Go.Proofs.YtinpoaghedhknaaDoor.Sha
open Go.ChangeShapes Go.WideShapes Go.ChangeAt Go.RowKit
set_option linter.unusedVariables false

theorem take_lt {l : List ByteArray} (h : ¬ (l.length < 2 ∨ 64 < l.length)) : (l.take (half l.length)).length < l.length := by
  have := half_facts (n := l.length) (by omega) (by omega)
  rw [List.length_take]; omega
theorem drop_lt {l : List ByteArray} (h : ¬ (l.length < 2 ∨ 64 < l.length)) : (l.drop (half l.length)).length < l.length := by
  have := half_facts (n := l.length) (by omega) (by omega)
  rw [List.length_drop]; omega
/-- The hash of a log. -/
def treeV (l : List ByteArray) : ByteArray :=
  if h : l.length < 2 ∨ 64 < l.length then (if l.length = 0 then hashV [] else l.getD 0 ByteArray.empty)
  else nodeV (treeV (l.take (half l.length))) (treeV (l.drop (half l.length)))
termination_by l.length
decreasing_by
  · exact take_lt h
  · exact drop_lt h
theorem treeV_none {l : List ByteArray} (h : l.length = 0) : treeV l = hashV [] := by rw [treeV, dif_pos (by omega), if_pos h]
theorem treeV_one {l : List ByteArray} (h : l.length = 1) : treeV l = l.getD 0 ByteArray.empty := by rw [treeV, dif_pos (by omega), if_neg (by omega)]
theorem treeV_two {l : List ByteArray} (h : 2 ≤ l.length) (h2 : l.length ≤ 64) : treeV l = nodeV (treeV (l.take (half l.length))) (treeV (l.drop (half l.length))) := by rw [treeV, dif_neg (by omega)]
def AllH (l : List ByteArray) : Prop := ∀ j, j < l.length → (l.getD j ByteArray.empty).size = 32
theorem AllH.take {l : List ByteArray} (h : AllH l) (k : Nat) : AllH (l.take k) := by
  intro j hj
  rw [List.length_take] at hj
  have := h j (by omega)
  rw [List.getD_eq_getElem?_getD] at this ⊢
  rw [List.getElem?_take, if_pos (by omega)]; exact this
theorem AllH.drop {l : List ByteArray} (h : AllH l) (k : Nat) : AllH (l.drop k) := by
  intro j hj
  rw [List.length_drop] at hj
  have := h (k + j) (by omega)
  rw [List.getD_eq_getElem?_getD] at this ⊢
  rw [List.getElem?_drop]; exact this
theorem tree_size : ∀ (n : Nat) (l : List ByteArray), l.length = n → n ≤ 64 → AllH l → (treeV l).size = 32 := by
  intro n
  induction n using Nat.strongRecOn with
  | ind n ih =>
    intro l hl hn ha
    rcases (show n = 0 ∨ n = 1 ∨ 2 ≤ n by omega) with h | h | h
    · rw [treeV_none (by omega)]; exact hash_size (by simp)
    · rw [treeV_one (by omega)]; exact ha 0 (by omega)
    · rw [treeV_two (by omega) (by omega)]
      have hf := half_facts (n := l.length) (by omega) (by omega)
      have e1 : (l.take (half l.length)).length = half l.length := by rw [List.length_take]; omega
      have e2 : (l.drop (half l.length)).length = l.length - half l.length := List.length_drop ..
      exact node_size (ih _ (by omega) _ e1 (by omega) (ha.take _)) (ih _ (by omega) _ e2 (by omega) (ha.drop _))

set_option maxRecDepth 100000 in
set_option maxHeartbeats 2000000 in
theorem treeHash_any : ∀ (n : Nat) (l : List ByteArray) (b off cap : Nat) (w : World), l.length = n → n ≤ 64 → AllH l → SA w b off cap l → Tab w →
    Calls Tryd.prog 76 #[.slice (some ⟨b, off, none⟩) n cap] w fun e w' => e = .returned (.string (treeV l)) ∧ Below w.heap.size w w' := by
  intro n
  induction n using Nat.strongRecOn with
  | ind n ih =>
    intro l b off cap w hl hn ha hs ht
    have HT := hide ht
    have HS := hide hs
    have HA := hide ha
    have HL := hide hl
    have hcap : n ≤ cap := by have := hs.le; omega
    have hcm : cap ≤ 9223372036854775807 := by have := hs.mx; unfold maxLen at this; omega
    rcases (show n = 0 ∨ n = 1 ∨ 2 ≤ n by omega) with h | h | h
    · have HV := hide (treeV_none (l := l) (by omega))
      have HH := hide (implHash_any (.slice none 0 0) [] w ⟨none, 0, rfl, by unfold maxLen; simp, .inl rfl, fun i => by simp⟩ ht.2 ht.1)
      clear ih hl ha hs ht
      subst h
      go_enter Tryd.func76, Tryd.ntmps76
      go_wp2_with fail
      refine (unhide HH).mono ?_
      rintro e w1 ⟨rfl, hb1⟩
      have K := hide hb1
      clear hb1
      rw [← unhide HV]
      go_wp2_with fail
      go_ret
      exact ⟨rfl, unhide K⟩
    · have HV := hide (treeV_one (l := l) (by omega))
      have c0 := hs.cell 0 (by omega)
      rw [Nat.add_zero] at c0
      clear ih hl ha hs ht
      subst h
      rw [← unhide HV] at c0
      go_enter Tryd.func76, Tryd.ntmps76
      go_wp2_with fail
      go_ret
      exact ⟨rfl, Below.refl _ _⟩
    · have HV := hide (treeV_two (l := l) (by omega) (by omega))
      have hf := half_facts (n := n) h hn
      have HP := hide (splitPlace_any n w h hn)
      rw [hl] at HV
      have z1 := tree_size (half n) (l.take (half n)) (by rw [List.length_take]; omega) (by omega) (ha.take _)
      have z2 := tree_size (n - half n) (l.drop (half n)) (by rw [List.length_drop]; omega) (by omega) (ha.drop _)
      have HZ := hide (And.intro z1 z2)
      have H1 : Hid (∀ wx, Below w.heap.size w wx → Calls Tryd.prog 76 #[.slice (some ⟨b, off, none⟩) (half n) cap] wx fun e w' => e = .returned (.string (treeV (l.take (half n)))) ∧ Below wx.heap.size wx w') := hide (fun wx hbx =>
        ih (half n) (by omega) (l.take (half n)) b off cap wx (by rw [List.length_take]; omega) (by omega) (ha.take _) ((hs.take _ (by omega)).below hbx) (ht.below hbx))
      have H2 : Hid (∀ wx, Below w.heap.size w wx → Calls Tryd.prog 76 #[.slice (some ⟨b, off + half n, none⟩) (n - half n) (cap - half n)] wx fun e w' => e = .returned (.string (treeV (l.drop (half n)))) ∧ Below wx.heap.size wx w') := hide (fun wx hbx =>
        ih (n - half n) (by omega) (l.drop (half n)) b (off + half n) (cap - half n) wx (by rw [List.length_drop]; omega) (by omega) (ha.drop _) ((hs.drop _ (by omega)).below hbx) (ht.below hbx))
      clear ih hl ha hs ht z1 z2
      generalize treeV (l.take (half n)) = t1 at *
      generalize treeV (l.drop (half n)) = t2 at *
      generalize half n = k at *
      have k0 : (0 : Int) ≤ (k : Int) := by omega
      have k1 : (k : Int) ≤ (n : Int) := by omega
      have k2 : (k : Int) ≤ (cap : Int) := by omega
      go_enter Tryd.func76, Tryd.ntmps76
      go_wp2_with fail
      refine (unhide HP).mono ?_
      rintro e w9 ⟨rfl, hw9⟩
      subst w9
      go_wp2_with fail
      go_region_held3 (fun _ => True) (trivial) (first
        | (go_at_call 96; refine (nodeHash_any t1 t2 _ (unhide HZ).1 (unhide HZ).2 ((unhide HT).below hb2)).mono ?_; rintro e w3 ⟨rfl, hb3⟩)
        | (go_at_call 76; refine (unhide H2 _ hb1).mono ?_; rintro e w2 ⟨rfl, hb2'⟩; have hb2 := hb1.trans (hb2'.mono hb1.size))
        | (go_at_call 76; refine (unhide H1 _ ((Below.refl _ w).drew)).mono ?_; rintro e w1 ⟨rfl, hb1'⟩; have hb1 := ((Below.refl _ w).drew).trans hb1'))
      have K := hide (hb2.trans (hb3.mono hb2.size))
      clear hb1' hb1 hb2' hb2 hb3
      rw [← unhide HV]
      go_wp2_with fail
      go_ret
      exact ⟨rfl, unhide K⟩
set_option maxRecDepth 100000 in
set_option maxHeartbeats 2000000 in
theorem l06Tree_any : ∀ (n : Nat) (l : List ByteArray) (b off cap : Nat) (w : World), l.length = n → n ≤ 64 → AllH l → SA w b off cap l →
    Calls Tryd.prog 38 #[.slice (some ⟨b, off, none⟩) n cap] w fun e w' => e = .returned (.string (treeV l)) ∧ Below w.heap.size w w' := by
  intro n
  induction n using Nat.strongRecOn with
  | ind n ih =>
    intro l b off cap w hl hn ha hs
    have HS := hide hs
    have HA := hide ha
    have HL := hide hl
    have hcap : n ≤ cap := by have := hs.le; omega
    have hcm : cap ≤ 9223372036854775807 := by have := hs.mx; unfold maxLen at this; omega
    rcases (show n = 0 ∨ n = 1 ∨ 2 ≤ n by omega) with h | h | h
    · have HV := hide (treeV_none (l := l) (by omega))
      have hV : Hid (hashV [] = strOfNums (textL (stAt [] (padLen 0 / 64)))) := hide (hashV_yes (by simp))
      have HH := hide (l01Hash_any ⟨w.heap.size, 0, none⟩ 0 [] (w.alloc (.cells #[] 5)) (own_empty w w.heap.size w.heap.size rfl (Nat.le_refl _)).bytes (by simp))
      have B0 := hide ((Below.refl w.heap.size w).alloc (Nat.le_refl _) (.cells #[] 5))
      simp only [List.length_nil] at HH
      clear ih hl ha hs
      subst h
      go_enter Tryd.func38, Tryd.ntmps38
      go_wp2_with fail
      refine (unhide HH).mono ?_
      rintro e w1 ⟨rfl, hb1⟩
      have K := hide ((unhide B0).trans (hb1.mono (unhide B0).size))
      clear hb1
      rw [← unhide hV, ← unhide HV]
      go_wp2_with fail
      go_ret
      exact ⟨rfl, unhide K⟩
    · have HV := hide (treeV_one (l := l) (by omega))
      have c0 := hs.cell 0 (by omega)
      rw [Nat.add_zero] at c0
      clear ih hl ha hs
      subst h
      rw [← unhide HV] at c0
      go_enter Tryd.func38, Tryd.ntmps38
      go_wp2_with fail
      go_ret
      exact ⟨rfl, Below.refl _ _⟩
    · have HV := hide (treeV_two (l := l) (by omega) (by omega))
      have hf := half_facts (n := n) h hn
      have HP := hide (l06Half_any n w h hn)
      rw [hl] at HV
      have z1 := tree_size (half n) (l.take (half n)) (by rw [List.length_take]; omega) (by omega) (ha.take _)
      have z2 := tree_size (n - half n) (l.drop (half n)) (by rw [List.length_drop]; omega) (by omega) (ha.drop _)
      have HZ := hide (And.intro z1 z2)
      have H1 : Hid (∀ wx, Below w.heap.size w wx → Calls Tryd.prog 38 #[.slice (some ⟨b, off, none⟩) (half n) cap] wx fun e w' => e = .returned (.string (treeV (l.take (half n)))) ∧ Below wx.heap.size wx w') := hide (fun wx hbx =>
        ih (half n) (by omega) (l.take (half n)) b off cap wx (by rw [List.length_take]; omega) (by omega) (ha.take _) ((hs.take _ (by omega)).below hbx))
      have H2 : Hid (∀ wx, Below w.heap.size w wx → Calls Tryd.prog 38 #[.slice (some ⟨b, off + half n, none⟩) (n - half n) (cap - half n)] wx fun e w' => e = .returned (.string (treeV (l.drop (half n)))) ∧ Below wx.heap.size wx w') := hide (fun wx hbx =>
        ih (n - half n) (by omega) (l.drop (half n)) b (off + half n) (cap - half n) wx (by rw [List.length_drop]; omega) (by omega) (ha.drop _) ((hs.drop _ (by omega)).below hbx))
      clear ih hl ha hs z1 z2
      generalize treeV (l.take (half n)) = t1 at *
      generalize treeV (l.drop (half n)) = t2 at *
      generalize half n = k at *
      have k0 : (0 : Int) ≤ (k : Int) := by omega
      have k1 : (k : Int) ≤ (n : Int) := by omega
      have k2 : (k : Int) ≤ (cap : Int) := by omega
      go_enter Tryd.func38, Tryd.ntmps38
      go_wp2_with fail
      refine (unhide HP).mono ?_
      rintro e w9 ⟨rfl, hw9⟩
      subst w9
      go_wp2_with fail
      go_region_held3 (fun _ => True) (trivial) (first
        | (go_at_call 63; refine (l06Node_any t1 t2 _ (unhide HZ).1 (unhide HZ).2).mono ?_; rintro e w3 ⟨rfl, hb3⟩)
        | (go_at_call 38; refine (unhide H2 _ hb1).mono ?_; rintro e w2 ⟨rfl, hb2'⟩; have hb2 := hb1.trans (hb2'.mono hb1.size))
        | (go_at_call 38; refine (unhide H1 _ ((Below.refl _ w).drew)).mono ?_; rintro e w1 ⟨rfl, hb1'⟩; have hb1 := ((Below.refl _ w).drew).trans hb1'))
      have K := hide (hb2.trans (hb3.mono hb2.size))
      clear hb1' hb1 hb2' hb2 hb3
      rw [← unhide HV]
      go_wp2_with fail
      go_ret
      exact ⟨rfl, unhide K⟩

/-- What TreeHash answers. -/
def treeOut (l : List ByteArray) : Value := if codeL l = 0 then .tuple #[.string (treeV l), .int .i64 0] else .tuple #[.string ⟨#[]⟩, .int .i64 (codeL l)]
end Go.Proofs.YtinpoaghedhknaaDoor.Sha
namespace Go.Proofs.YtinpoaghedhknaaDoor.Sha
open Go.ChangeShapes Go.WideShapes Go.ChangeAt Go.RowKit
set_option linter.unusedVariables false
set_option linter.unusedSimpArgs false

def rootM : ByteArray := ⟨#[114, 111, 111, 116]⟩
def lrV (ls : List ByteArray) (o : Option Tr) : ByteArray := kh (rootM ++ treeV ls ++ rootR o)
/-- What LedgerRoot answers. -/
def lrOut (ls : List ByteArray) (b : Br) (ss : List Se) : Value := if ledB ls b ss = true then (match mapV b with
    | none => .tuple #[.string ⟨#[]⟩, .int .i64 1]
    | some o => .tuple #[.string (lrV ls o), .int .i64 0])
  else .tuple #[.string ⟨#[]⟩, .int .i64 1]
theorem lr_cases (ls : List ByteArray) (b : Br) (ss : List Se) : ∃ s c, lrOut ls b ss = .tuple #[.string s, .int .i64 c] := by
  unfold lrOut
  split
  · split
    · exact ⟨_, _, rfl⟩
    · exact ⟨_, _, rfl⟩
  · exact ⟨_, _, rfl⟩
theorem rootR_size (o : Option Tr) (h : OkO o) : (rootR o).size = 32 := by
  cases o with
  | none => exact hash_size (by simp)
  | some t => exact trR_size t h
theorem allH_all {l : List ByteArray} (h : allH l = true) : AllH l := fun j hj => allH_at h j hj
theorem ledB_facts {ls : List ByteArray} {b : Br} {ss : List Se} (h : ledB ls b ss = true) : ls.length ≤ 50 ∧ AllH ls ∧ mapB b = true ∧ sesB ss = true := by
  unfold ledB at h
  simp only [Bool.and_eq_true] at h
  exact ⟨by simpa using h.1.1.1, allH_all h.1.1.2, h.1.2, h.2⟩
set_option maxRecDepth 100000 in
theorem logRoot_any (p g cap : Nat) (ls : List ByteArray) (w : World) (hc : w.cell? ⟨p, 0, none⟩ = some (.slice (some ⟨g, 0, none⟩) ls.length cap)) (hs : SA w g 0 cap ls) (h50 : ls.length ≤ 50) (ha : AllH ls) (ht : Tab w) :
    Calls Tryd.prog 49 #[.pointer (some ⟨p, 0, none⟩)] w fun e w' => e = .returned (.string (treeV ls)) ∧ Below w.heap.size w w' := by
  have HT := hide (treeHash_any ls.length ls g 0 cap w rfl (by omega) ha hs ht)
  clear hs ha ht
  generalize treeV ls = tv at *
  go_enter Tryd.func49, Tryd.ntmps49
  go_wp2_with fail
  refine (unhide HT).mono ?_
  rintro e w1 ⟨rfl, hb1⟩
  have K := hide hb1
  clear hb1
  go_wp2_with fail
  go_ret
  exact ⟨rfl, unhide K⟩
set_option maxRecDepth 100000 in
theorem mapRootM_any (p : Nat) (tp : Option Addr) (S : Nat → Prop) (o : Option Tr) (w : World) (hc : w.cell? ⟨p, 1, none⟩ = some (.pointer tp)) (hp : PtrM w S tp o) (hok : OkO o) (ht : Tab w) :
    Calls Tryd.prog 50 #[.pointer (some ⟨p, 1, none⟩)] w fun e w' => e = .returned (.string (rootR o)) ∧ Below w.heap.size w w' := by
  have HT := hide (rootO_any hp hok ht)
  clear hp hok ht
  generalize rootR o = tv at *
  go_enter Tryd.func50, Tryd.ntmps50
  go_wp2_with fail
  refine (unhide HT).mono ?_
  rintro e w1 ⟨rfl, hb1⟩
  have K := hide hb1
  clear hb1
  go_wp2_with fail
  go_ret
  exact ⟨rfl, unhide K⟩
set_option maxRecDepth 100000 in
set_option maxHeartbeats 1000000 in
theorem bookRoot_any (p g cap : Nat) (tp : Option Addr) (S : Nat → Prop) (ls : List ByteArray) (o : Option Tr) (w : World) (hp : p < w.heap.size) (c0 : w.cell? ⟨p, 0, none⟩ = some (.slice (some ⟨g, 0, none⟩) ls.length cap)) (c1 : w.cell? ⟨p, 1, none⟩ = some (.pointer tp))
    (hs : SA w g 0 cap ls) (h50 : ls.length ≤ 50) (ha : AllH ls) (hm : PtrM w S tp o) (hok : OkO o) (ht : Tab w) :
    Calls Tryd.prog 23 #[.pointer (some ⟨p, 0, none⟩)] w fun e w' => e = .returned (.string (lrV ls o)) ∧ Below w.heap.size w w' := by
  have hts := tree_size ls.length ls rfl (by omega) ha
  have hrs := rootR_size o hok
  have HLR := hide (fun wx (hx : Below w.heap.size w wx) (hT : Tab wx) => logRoot_any p g cap ls wx ((hx.cell (p := ⟨p, 0, none⟩) hp).trans c0) (hs.below hx) h50 ha hT)
  have HMR := hide (fun wx (hx : Below w.heap.size w wx) (hT : Tab wx) => mapRootM_any p tp S o wx ((hx.cell (p := ⟨p, 1, none⟩) hp).trans c1) (hm.blw hx) hok hT)
  obtain ⟨x1, hc1⟩ : ∃ c1, (⟨#[114, 111, 111, 116]⟩ : ByteArray) ++ treeV ls = c1 := ⟨_, rfl⟩
  obtain ⟨x2, hct2⟩ : ∃ c2, x1 ++ rootR o = c2 := ⟨_, rfl⟩
  have HV : Hid (lrV ls o = hashV (bytesI x2)) := hide (by rw [← hct2, ← hc1]; rfl)
  have hc1z : x1.size = 36 := by rw [← hc1, ByteArray.size_append, hts]; rfl
  have hcat : x2.size = 68 := by rw [← hct2, ← hc1, ByteArray.size_append, ByteArray.size_append, hts, hrs]; rfl
  have HD := hide (below_drewN (Below.refl w.heap.size w) 1)
  have HT1 := hide ht
  generalize lrV ls o = res at *
  generalize treeV ls = tv at *
  generalize rootR o = rv at *
  clear c0 c1 hs hm ha ht
  go_enter Tryd.func23, Tryd.ntmps23
  go_wp2_with fail
  go_region_law (first
    | (go_simp; go_at_call 48; refine (implHash_any _ _ w4 hBy (hT3.below hb4).2 (hT3.below hb4).1).mono ?_; rintro e w5 ⟨rfl, hb5⟩; go_simp)
    | (go_simp; go_at_call 50; refine (unhide HMR _ k2 hT2).mono ?_; rintro e w3 ⟨rfl, hb3⟩; (have k3 := k2.trans (hb3.mono k2.size)); (have hT3 := hT2.below hb3); (obtain ⟨cap4, w4, hcv, hBy, hb4⟩ := str_bytesB x2 w3 (by unfold maxLen; omega)); rw [hcat] at hcv hBy; go_simp)
    | (go_simp; go_at_call 49; refine (unhide HLR _ (unhide HD) ((unhide HT1).below (unhide HD))).mono ?_; rintro e w2 ⟨rfl, hb2⟩; (have k2 := (unhide HD).trans (hb2.mono (unhide HD).size)); (have hT2 := (unhide HT1).below k2); go_simp))
  all_goals
    have K5 := hide (k3.trans ((hb4.trans (hb5.mono hb4.size)).mono k3.size))
    clear hb2 hb3 hb4 hb5 k2 k3 hT2 hT3 hBy hcv
    rw [← unhide HV]
    go_wp2_with fail
    go_ret
    exact ⟨rfl, unhide K5⟩
set_option maxRecDepth 100000 in
set_option maxHeartbeats 1000000 in
theorem implLedgerRoot_any (ls : List ByteArray) (k v : ByteArray) (a : Int) (ks : List Br) (ss : List Se) (lb loff lc : Nat) (ka : Option Addr) (kc : Nat) (sx : Addr) (sc : Nat) (w : World)
    (hS : SA w lb loff lc ls) (h : LedR w (.slice (some ⟨lb, loff, none⟩) ls.length lc) (.slice ka ks.length kc) (.slice (some sx) ss.length sc) ls ks ss) (t1 : ∀ i, (ls.getD i ByteArray.empty).size ≤ 1048576) (zk : k.size ≤ maxLen) (zv : v.size ≤ maxLen) (t3 : ∀ i, (ss.getD i default).vl.size ≤ 1048576) (ht : Tab w) :
    Calls Tryd.prog 8 #[.agg #[.slice (some ⟨lb, loff, none⟩) ls.length lc, .string k, .string v, .int .i64 a, .slice ka ks.length kc, .slice (some sx) ss.length sc]] w fun e w' => e = .returned (lrOut ls (.mk k v a ks) ss) ∧ Below w.heap.size w w' := by
  have B0 := hide ((Below.refl w.heap.size w).alloc (Nat.le_refl _) (.cells #[.slice (some ⟨lb, loff, none⟩) ls.length lc, .string k, .string v, .int .i64 a, .slice ka ks.length kc, .slice (some sx) ss.length sc] 37))
  have HB := hide (openBook_any ls k v a ks ss lb loff lc ka kc sx sc _ (hS.below (unhide B0)) (h.below (unhide B0)) t1 zk zv t3 (ht.below (unhide B0)))
  have HT := hide ht
  have HOD : Hid (lrOut ls (.mk k v a ks) ss = if ledB ls (.mk k v a ks) ss = true then (match mapV (.mk k v a ks) with | none => .tuple #[.string ⟨#[]⟩, .int .i64 1] | some o => .tuple #[.string (lrV ls o), .int .i64 0]) else .tuple #[.string ⟨#[]⟩, .int .i64 1]) := rfl
  have HBR := hide (fun o => mapV_br (b := .mk k v a ks) (o := o))
  clear hS h t1 zk zv t3 ht
  go_enter Tryd.func8, Tryd.ntmps8
  go_wp2_with fail
  refine (unhide HB).mono ?_
  rintro e w1 ⟨pv, rfl, hb1, hok⟩
  have K1 := hide ((unhide B0).trans (hb1.mono (unhide B0).size))
  have hsz0 := (unhide B0).size
  clear hb1 HB
  rcases Bool.eq_false_or_eq_true (ledB ls (.mk k v a ks) ss) with hl | hl
  case inr =>
    have HO : Hid (lrOut ls (.mk k v a ks) ss = .tuple #[.string ⟨#[]⟩, .int .i64 1]) := hide (by rw [unhide HOD, if_neg (by rw [hl]; decide)])
    rw [hl]
    go_wp2_with fail
    go_ret2
    exact ⟨by rw [unhide HO]; rfl, unhide K1⟩
  obtain ⟨p, g, lcap, tp, h2, hc2, S, o, rfl, ho, hbk⟩ := hok hl
  obtain ⟨h50, hall, _, _⟩ := ledB_facts hl
  have HO : Hid (lrOut ls (.mk k v a ks) ss = .tuple #[.string (lrV ls o), .int .i64 0]) := hide (by rw [unhide HOD, if_pos hl, ho])
  obtain ⟨hblk, hBp, hOl, hOs, hPm, hSx, _, _, _⟩ := hbk
  have hok := (unhide HBR o ho).2
  have HR := hide (bookRoot_any p g lcap tp S ls o w1 hblk.1 (hblk.cell 0 rfl) (hblk.cell 1 rfl) (SA.own hOl) h50 hall hPm hok ((unhide HT).below (unhide K1)))
  generalize lrV ls o = res at *
  clear hblk hOl hOs hPm hSx hall HBR HOD
  rw [hl]
  go_wp2_with fail
  refine (unhide HR).mono ?_
  rintro e w5 ⟨rfl, hb5⟩
  have K5 := hide ((unhide K1).trans (hb5.mono (unhide K1).size))
  clear hb5 HR
  go_wp2_with fail
  go_ret2
  exact ⟨by rw [unhide HO]; rfl, unhide K5⟩
set_option maxRecDepth 100000 in
set_option maxHeartbeats 1000000 in
theorem l09Root_any (ls : List ByteArray) (o : Option Tr) (ss : List Se) (g gc : Nat) (ka : Option Addr) (kc : Nat) (sv : Value) (w : World) (hOl : SA w g 0 gc ls) (hK : Brs (fun _ => True) w (.slice ka (brOf o).kids.length kc) (brOf o).kids) (h50 : ls.length ≤ 50) (hall : AllH ls) (hok : OkO o) :
    Calls Tryd.prog 18 #[.agg #[.slice (some ⟨g, 0, none⟩) ls.length gc, .string (brOf o).key, .string (brOf o).val, .int .i64 (brOf o).at_, .slice ka (brOf o).kids.length kc, sv]] w fun e w' => e = .returned (.string (lrV ls o)) ∧ Below w.heap.size w w' := by
  have B0 := hide ((Below.refl w.heap.size w).alloc (Nat.le_refl _) (.cells #[.slice (some ⟨g, 0, none⟩) ls.length gc, .string (brOf o).key, .string (brOf o).val, .int .i64 (brOf o).at_, .slice ka (brOf o).kids.length kc, sv] 37))
  have X0 := hide (Blk.new w #[.slice (some ⟨g, 0, none⟩) ls.length gc, .string (brOf o).key, .string (brOf o).val, .int .i64 (brOf o).at_, .slice ka (brOf o).kids.length kc, sv] 37 w.heap.size rfl)
  have hts := tree_size ls.length ls rfl (by omega) hall
  have hrs := rootR_size o hok
  have HTR := hide (fun wx (hx : Below w.heap.size w wx) => l06Tree_any ls.length ls g 0 gc wx rfl (by omega) hall (hOl.below hx))
  have HRT := hide (fun wx (hx : Below w.heap.size w wx) => l07RootO_any o hok _ _ wx (hK.blw hx))
  obtain ⟨c1, hc1⟩ : ∃ c1, (⟨#[114, 111, 111, 116]⟩ : ByteArray) ++ treeV ls = c1 := ⟨_, rfl⟩
  obtain ⟨c2, hct2⟩ : ∃ c2, c1 ++ rootR o = c2 := ⟨_, rfl⟩
  have hc1z : c1.size = 36 := by rw [← hc1, ByteArray.size_append, hts]; rfl
  have hcat : c2.size = 68 := by rw [← hct2, ← hc1, ByteArray.size_append, ByteArray.size_append, hts, hrs]; rfl
  have hl : (bytesI c2).length = 68 := by rw [bytesI_len]; exact hcat
  have HV : Hid (lrV ls o = strOfNums (textL (stAt (bytesI c2) (padLen (bytesI c2).length / 64)))) := hide ((show lrV ls o = hashV (bytesI c2) by rw [← hct2, ← hc1]; rfl).trans (hashV_yes (by omega)))
  have HHL := hide (fun (cap4 : Nat) (wx wy : World) (hBy : Bytes wy (.slice (some ⟨wx.heap.size, 0, none⟩) 68 cap4) (bytesI c2)) => l01Hash_any ⟨wx.heap.size, 0, none⟩ cap4 (bytesI c2) wy (by rw [hl]; exact hBy) (by omega))
  rw [hl] at HHL HV
  have HD := hide (below_drewN (unhide B0) 1)
  have x00 := (unhide X0).cell 0 rfl
  have x01 := (unhide X0).cell 1 rfl
  have x02 := (unhide X0).cell 2 rfl
  have x03 := (unhide X0).cell 3 rfl
  have x04 := (unhide X0).cell 4 rfl
  have hx0 := (unhide X0).1
  generalize treeV ls = tv at *
  generalize rootR o = rv at *
  generalize (brOf o).key = bk at *
  generalize (brOf o).val = bv at *
  generalize (brOf o).at_ = ba at *
  generalize (brOf o).kids.length = bn at *
  generalize strOfNums (textL (stAt (bytesI c2) (padLen 68 / 64))) = hres at *
  generalize lrV ls o = res at *
  obtain rfl : res = hres := unhide HV
  clear hOl hK hok HV
  go_enter Tryd.func18, Tryd.ntmps18
  go_wp2_with fail
  generalize w.alloc (.cells #[.slice (some ⟨g, 0, none⟩) ls.length gc, .string bk, .string bv, .int .i64 ba, .slice ka bn kc, sv] 37) = w0 at *
  have D1 := hide (below_drewN (Below.refl w0.heap.size w0) 1)
  go_region_law (first
    | (go_simp; go_at_call 37; refine (unhide HHL cap4 w3 w4 hBy).mono ?_; rintro e w5 ⟨rfl, hb5⟩; go_simp)
    | (go_simp; go_at_call 39; refine (unhide HRT _ k2).mono ?_; rintro e w3 ⟨rfl, hb3⟩; (have k3 := k2.trans (hb3.mono k2.size)); (obtain ⟨cap4, w4, hcv, hBy, hb4⟩ := str_bytesB c2 w3 (by unfold maxLen; omega)); rw [hcat] at hcv hBy; go_simp)
    | (go_simp; go_at_call 38; refine (unhide HTR _ (unhide HD)).mono ?_; rintro e w2 ⟨rfl, hb2⟩; (have k2 := (unhide HD).trans (hb2.mono (unhide HD).size)); (have y1 := (hb2.cell (p := ⟨w.heap.size, 1, none⟩) hx0).trans x01); (have y2 := (hb2.cell (p := ⟨w.heap.size, 2, none⟩) hx0).trans x02); (have y3 := (hb2.cell (p := ⟨w.heap.size, 3, none⟩) hx0).trans x03); (have y4 := (hb2.cell (p := ⟨w.heap.size, 4, none⟩) hx0).trans x04); go_simp))
  all_goals
    have K5 := hide (k3.trans ((hb4.trans (hb5.mono hb4.size)).mono k3.size))
    clear hb2 hb3 hb4 hb5 k2 k3 hBy hcv
    go_wp2_with fail
    go_ret
    exact ⟨rfl, unhide K5⟩
set_option maxRecDepth 100000 in
set_option maxHeartbeats 1000000 in
theorem specLedgerRoot_any (ls : List ByteArray) (k v : ByteArray) (a : Int) (ks : List Br) (ss : List Se) (lb lc : Nat) (ka : Option Addr) (kc : Nat) (sa : Option Addr) (sc : Nat) (w : World)
    (hS : SA w lb 0 lc ls) (h : LedR w (.slice (some ⟨lb, 0, none⟩) ls.length lc) (.slice ka ks.length kc) (.slice sa ss.length sc) ls ks ss) (t1 : ∀ i, (ls.getD i ByteArray.empty).size ≤ 1048576) (zk : k.size ≤ maxLen) (zv : v.size ≤ maxLen) (t3 : ∀ i, (ss.getD i default).vl.size ≤ 1048576) :
    Calls Tryd.prog 6 #[.agg #[.slice (some ⟨lb, 0, none⟩) ls.length lc, .string k, .string v, .int .i64 a, .slice ka ks.length kc, .slice sa ss.length sc]] w fun e w' => e = .returned (lrOut ls (.mk k v a ks) ss) ∧ Below w.heap.size w w' := by
  have B0 := hide ((Below.refl w.heap.size w).alloc (Nat.le_refl _) (.cells #[.slice (some ⟨lb, 0, none⟩) ls.length lc, .string k, .string v, .int .i64 a, .slice ka ks.length kc, .slice sa ss.length sc] 37))
  have X0 := hide (Blk.new w #[.slice (some ⟨lb, 0, none⟩) ls.length lc, .string k, .string v, .int .i64 a, .slice ka ks.length kc, .slice sa ss.length sc] 37 w.heap.size rfl)
  have HB := hide (specLedgerOK_any ls k v a ks ss lb 0 lc ka kc sa sc _ (hS.below (unhide B0)) (h.below (unhide B0)) t1 zk zv t3)
  have HOD : Hid (lrOut ls (.mk k v a ks) ss = if ledB ls (.mk k v a ks) ss = true then (match mapV (.mk k v a ks) with | none => .tuple #[.string ⟨#[]⟩, .int .i64 1] | some o => .tuple #[.string (lrV ls o), .int .i64 0]) else .tuple #[.string ⟨#[]⟩, .int .i64 1]) := rfl
  rcases Bool.eq_false_or_eq_true (ledB ls (.mk k v a ks) ss) with hl | hl
  case inr =>
    have HO : Hid (lrOut ls (.mk k v a ks) ss = .tuple #[.string ⟨#[]⟩, .int .i64 1]) := hide (by rw [unhide HOD, if_neg (by rw [hl]; decide)])
    rw [hl] at HB
    clear hS h t1 t3 zk zv HOD
    go_enter Tryd.func6, Tryd.ntmps6
    go_wp2_with fail
    refine (unhide HB).mono ?_
    rintro e w1 ⟨rfl, hb1⟩
    have K1 := hide ((unhide B0).trans (hb1.mono (unhide B0).size))
    clear hb1
    go_wp2_with fail
    go_ret2
    exact ⟨by rw [unhide HO]; rfl, unhide K1⟩
  obtain ⟨h50, hall, hmb, _⟩ := ledB_facts hl
  obtain ⟨o, ho⟩ : ∃ o, mapV (.mk k v a ks) = some o := by
    rw [mapB_V] at hmb
    exact Option.isSome_iff_exists.1 hmb
  obtain ⟨hbr, hok⟩ := mapV_br ho
  have HO : Hid (lrOut ls (.mk k v a ks) ss = .tuple #[.string (lrV ls o), .int .i64 0]) := hide (by rw [unhide HOD, if_pos hl, ho])
  rw [hl] at HB
  obtain rfl : k = (brOf o).key := by rw [← hbr]; rfl
  obtain rfl : v = (brOf o).val := by rw [← hbr]; rfl
  obtain rfl : a = (brOf o).at_ := by rw [← hbr]; rfl
  obtain rfl : ks = (brOf o).kids := by rw [← hbr]; rfl
  have HRT := hide (fun wx (hx : Below w.heap.size w wx) => l09Root_any ls o ss lb lc ka kc (.slice sa ss.length sc) wx (hS.below hx) (h.kv.blw hx) h50 hall hok)
  generalize lrV ls o = res at *
  generalize (brOf o).key = bk at *
  generalize (brOf o).val = bv at *
  generalize (brOf o).at_ = ba at *
  generalize (brOf o).kids = bks at *
  clear hS h t1 t3 zk zv HOD hall hok hbr ho hl hmb
  go_enter Tryd.func6, Tryd.ntmps6
  go_wp2_with fail
  refine (unhide HB).mono ?_
  rintro e w1 ⟨rfl, hb1⟩
  have K1 := hide ((unhide B0).trans (hb1.mono (unhide B0).size))
  have X1 := (unhide X0).below hb1
  have x0 := X1.cell 0 rfl
  have x1 := X1.cell 1 rfl
  have x2 := X1.cell 2 rfl
  have x3 := X1.cell 3 rfl
  have x4 := X1.cell 4 rfl
  have x5 := X1.cell 5 rfl
  clear hb1 X1 X0
  go_wp2_with fail
  refine (unhide HRT w1 (unhide K1)).mono ?_
  rintro e w2 ⟨rfl, hb2⟩
  have K2 := hide ((unhide K1).trans (hb2.mono (unhide K1).size))
  clear hb2
  go_wp2_with fail
  go_ret2
  exact ⟨by rw [unhide HO]; rfl, unhide K2⟩
end Go.Proofs.YtinpoaghedhknaaDoor.Sha
