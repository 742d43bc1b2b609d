/- What the proof of the claim needs (joined by program): ApP BrE Led ClS LeI. -/
import Derived.Test.YtnhhnjmjodmacaaGreatDoorQaa03
import Derived.Test.YtnhhnjmjodmacaaGreatDoorQaa04
import Derived.Test.YtnhhnjmjodmacaaGreatDoorQaa15
import Derived.Test.YtnhhnjmjodmacaaGreatDoorQaa11
import Derived.Test.YtnhhnjmjodmacaaGreatDoorQaa23
import Derived.Test.YtnhhnjmjodmacaaGreatDoorQaa24
import Derived.Test.YtnhhnjmjodmacaaGreatDoorQaa10
import Derived.Test.YtnhhnjmjodmacaaGreatDoorQaa12
import Derived.Test.YtnhhnjmjodmacaaGreatDoorQaa02
import Derived.Test.YtnhhnjmjodmacaaGreatDoorQaa01
import Derived.Test.YtnhhnjmjodmacaaGreatDoorQaa19
import Derived.Test.YtnhhnjmjodmacaaGreatDoorQaa00
import Derived.Deep.Fields
import Derived.Deep.Slices
import Derived.SliceStrings
import Derived.Deep.RegionLaw
import Derived.Deep.DeepCutAuto
import Derived.Deep.RegionHeld3
import Derived.Lib.BitFns
namespace Go.Proofs.YtnhhnjmjodmacaaGreatDoor.Sha
set_option maxRecDepth 100000
set_option maxHeartbeats 8000000
open Go.ChangeShapes Go.WideShapes Go.ChangeAt Go.RowKit Go.Deep
set_option linter.unusedVariables false
set_option linter.unusedSimpArgs false
def dropO (h : ByteArray) : Option Tr → Option Tr
 | none => none
 | some t => dropT h t
def leafC (c : Cm) : ByteArray := leafV (strOfNums (cmdBytes c.kd c.ss c.sq c.ky c.vl))
theorem leafC_size {c : Cm} (hk : c.ky.size ≤ 24) (hv : c.vl.size ≤ 60) : (leafC c).size = 32 := by
 obtain ⟨ckd, css, csq, cky, cvl⟩ := c
 dsimp only at hk hv
 have e : (strOfNums (cmdBytes ckd css csq cky cvl)).size ≤ 100 := by
  have e1 : cky.data.size = cky.size := rfl
  have e2 : cvl.data.size = cvl.size := rfl
  simp only [strOfNums, ByteArray.size, cmdBytes, List.length_append, encN_len, textsL_len, sizes, List.size_toArray, List.length_map]
  omega
 exact hash_size (by simp [bytesI_len]; omega)
def cmK (c : Cm) : Bool := cmdOK c.kd c.ss c.sq c.ky c.vl
def chOut (ls : List ByteArray) (o : Option Tr) (c : Cm) (g : Option ByteArray) : List ByteArray × Option Tr × Re :=
 if c.kd = 3 ∧ g = none then (ls, o, ⟨2, 0, ⟨#[]⟩⟩)
 else if 0 < exV ls.length (lvO o) g.isSome (vbV c.kd c.vl (g.getD ⟨#[]⟩)).size then (ls, o, ⟨6, 0, ⟨#[]⟩⟩)
 else (ls ++ [leafC c], if c.kd = 3 then dropO (kh c.ky) o else some (putO o c.ky (vbV c.kd c.vl (g.getD ⟨#[]⟩))), ⟨1, (ls.length : Int) + 1, vbV c.kd c.vl (g.getD ⟨#[]⟩)⟩)
structure Lst where
 ls : List ByteArray
 o : Option Tr
 ss : List Se
def svOut (x : Lst) (c : Cm) (q : Nat) : Lst × Re :=
 if c.sq = (x.ss.getD q default).sq ∧ (x.ss.getD q default).kd ≠ 0 then (x, ⟨(x.ss.getD q default).kd, (x.ss.getD q default).pl, (x.ss.getD q default).vl⟩)
 else if c.sq ≤ (x.ss.getD q default).sq then (x, ⟨3, 0, ⟨#[]⟩⟩)
 else (⟨(chOut x.ls x.o c (getV x.o c.ky)).1, (chOut x.ls x.o c (getV x.o c.ky)).2.1, x.ss.set q ⟨(x.ss.getD q default).id, c.sq, (chOut x.ls x.o c (getV x.o c.ky)).2.2.kd, (chOut x.ls x.o c (getV x.o c.ky)).2.2.pl, (chOut x.ls x.o c (getV x.o c.ky)).2.2.vl⟩⟩, (chOut x.ls x.o c (getV x.o c.ky)).2.2)
def apOut (x : Lst) (c : Cm) : Lst × Re :=
 if c.kd = 4 then (if hasS x.ss c.ss then (x, ⟨5, 0, ⟨#[]⟩⟩) else if x.ss.length = 8 then (x, ⟨6, 0, ⟨#[]⟩⟩) else (⟨x.ls, x.o, insS x.ss (posS x.ss c.ss) (newS c.ss)⟩, ⟨1, 0, ⟨#[]⟩⟩))
 else if hasS x.ss c.ss = false then (x, ⟨4, 0, ⟨#[]⟩⟩)
 else if c.kd = 5 then (⟨x.ls, x.o, delS x.ss (posS x.ss c.ss)⟩, ⟨1, 0, ⟨#[]⟩⟩)
 else svOut x c (posS x.ss c.ss)
structure LOK (x : Lst) : Prop where
 n : x.ls.length ≤ 50
 h : ∀ s ∈ x.ls, s.size = 32
 ok : OkO x.o
 ri : RiseO x.o
 sp : SepO x.o
 m : x.ss.length ≤ 8
 rs : RiseS x.ss
 sb : ∀ s ∈ x.ss, (0 ≤ s.id ∧ s.id ≤ 65535) ∧ (0 ≤ s.sq ∧ s.sq ≤ 65535) ∧ (0 ≤ s.kd ∧ s.kd ≤ 6) ∧ (0 ≤ s.pl ∧ s.pl ≤ 50) ∧ s.vl.size ≤ 60
theorem LOK.keys {x : Lst} (h : LOK x) : lvO x.o ≤ 40 := by
 have := h.sp
 cases ho : x.o with
 | none => simp [lvO]
 | some t => rw [ho] at this; exact this.2
theorem dropT_lvN (h : ByteArray) : ∀ t : Tr, lvO (dropT h t) ≤ t.lvN
 | .leaf _ _ => Nat.zero_le _
 | .fork a hh l r => by
  have h1 := dropT_lvN h l
  have h2 := dropT_lvN h r
  unfold dropT
  show _ ≤ l.lvN + r.lvN
  split
  ·cases hd : dropT h l with
   | none => show r.lvN ≤ _; omega
   | some l' => rw [hd] at h1; show l'.lvN + r.lvN ≤ _; have : l'.lvN ≤ l.lvN := h1; omega
  ·cases hd : dropT h r with
   | none => show l.lvN ≤ _; omega
   | some r' => rw [hd] at h2; show l.lvN + r'.lvN ≤ _; have : r'.lvN ≤ r.lvN := h2; omega
theorem getV_size {o : Option Tr} (h : OkO o) {key x : ByteArray} (hg : getV o key = some x) : x.size ≤ 60 := by
 cases o with
 | none => cases hg
 | some t =>
  unfold getV at hg
  dsimp only at hg
  split at hg
  ·cases hg
   exact (lead_ok _ t h).2
  ·cases hg
theorem cmK_key {c : Cm} (h : cmK c = true) (hk : c.kd ≠ 4) (hk5 : c.kd ≠ 5) : okK c.ky = true ∧ c.vl.size ≤ 60 ∧ (0 ≤ c.sq ∧ c.sq ≤ 65535) ∧ (c.kd = 1 ∨ c.kd = 2 ∨ c.kd = 3) ∧ (c.kd = 3 → c.vl.size = 0) := by
 unfold cmK cmdOK at h
 split at h
 ·rename_i h1
  simp only [Bool.and_eq_true, decide_eq_true_eq] at h1
  split at h
  ·rename_i h2
   refine ⟨okK_iff.2 ?_, h1.2, inB_iff.1 h1.1.2, by omega, fun e => by omega⟩
   have := inB_iff.1 h; omega
  ·split at h
   ·rename_i h3
    simp only [Bool.and_eq_true] at h
    refine ⟨okK_iff.2 ?_, h1.2, inB_iff.1 h1.1.2, .inr (.inr h3), fun _ => ?_⟩
    ·have := inB_iff.1 h.1; omega
    ·exact emptyB_iff.1 h.2
   ·rw [if_neg (by omega)] at h; cases h
 ·cases h
theorem cmK_ses {c : Cm} (h : cmK c = true) : 0 ≤ c.ss ∧ c.ss ≤ 65535 := by
 unfold cmK cmdOK at h
 split at h
 ·rename_i h1
  simp only [Bool.and_eq_true] at h1
  exact inB_iff.1 h1.1.1
 ·cases h
def ReOK (r : Re) : Prop := (0 ≤ r.kd ∧ r.kd ≤ 6) ∧ (0 ≤ r.pl ∧ r.pl ≤ 50) ∧ r.vl.size ≤ 60
theorem reOK_of (k : Int) (h0 : 0 ≤ k) (h1 : k ≤ 6) : ReOK ⟨k, 0, ⟨#[]⟩⟩ := ⟨⟨h0, h1⟩, ⟨by show (0 : Int) ≤ 0; omega, by show (0 : Int) ≤ 50; omega⟩, by show (⟨#[]⟩ : ByteArray).size ≤ 60; decide⟩
theorem fd_self {x : ByteArray} (h : x.size = 32) : ¬ fd x x < 256 := fun e => ((fd_ne h h).1 e) rfl
theorem exV_le {n k z : Nat} {t : Bool} (h : ¬ 0 < exV n k t z) : n ≤ 49 ∧ z ≤ 60 ∧ (t = false → k ≤ 39) := by
 unfold exV at h
 cases t with
 | true => rw [if_pos rfl] at h; refine ⟨by omega, by omega, fun e => by cases e⟩
 | false => rw [if_neg (by simp)] at h; refine ⟨by omega, by omega, fun _ => by omega⟩
theorem put_lvN {o : Option Tr} {key val : ByteArray} (ho : OkO o) (hs : SepO o) (hk : okK key = true) (h : getV o key = none → lvO o ≤ 39) : (putO o key val).lvN ≤ 40 := by
 have hks := okK_iff.1 hk
 cases o with
 | none => show 1 ≤ 40; omega
 | some t =>
  have h2 := putT_lvN (kh key) (putAt t key) key val (fd_le _ _) t ho
  have h3 := hs.2
  show (putT (kh key) (putAt t key) key val t).lvN ≤ 40
  rw [h2]
  split
  ·rename_i hlt
   have : getV (some t) key = none := by
    unfold getV
    dsimp only
    rw [if_neg (fun e => ?_)]
    unfold putAt at hlt
    rw [e] at hlt
    exact fd_self (kh_size (by omega)) hlt
   have := h this
   have e : lvO (some t) = t.lvN := rfl
   omega
  ·omega
theorem ch_ok {x : Lst} (h : LOK x) {c : Cm} (hc : cmK c = true) (h4 : c.kd ≠ 4) (h5 : c.kd ≠ 5) : LOK ⟨(chOut x.ls x.o c (getV x.o c.ky)).1, (chOut x.ls x.o c (getV x.o c.ky)).2.1, x.ss⟩ ∧ ReOK (chOut x.ls x.o c (getV x.o c.ky)).2.2 := by
 obtain ⟨k1, k2, k3, k4, k5⟩ := cmK_key hc h4 h5
 have hks := okK_iff.1 k1
 unfold chOut
 split
 ·exact ⟨⟨h.n, h.h, h.ok, h.ri, h.sp, h.m, h.rs, h.sb⟩, reOK_of 2 (by omega) (by omega)⟩
 ·split
  ·exact ⟨⟨h.n, h.h, h.ok, h.ri, h.sp, h.m, h.rs, h.sb⟩, reOK_of 6 (by omega) (by omega)⟩
  ·rename_i h1 h2
   obtain ⟨e1, e2, e3⟩ := exV_le h2
   have hv : TrOK (.leaf c.ky (vbV c.kd c.vl ((getV x.o c.ky).getD ⟨#[]⟩))) := ⟨k1, e2⟩
   have hls : ∀ s ∈ x.ls ++ [leafC c], s.size = 32 := fun s hs => by
    rcases List.mem_append.1 hs with hs | hs
    ·exact h.h s hs
    ·rw [List.mem_singleton.1 hs]; exact leafC_size hks.2 k2
   have hn : (x.ls ++ [leafC c]).length ≤ 50 := by simp; omega
   have hr : ReOK ⟨1, (x.ls.length : Int) + 1, vbV c.kd c.vl ((getV x.o c.ky).getD ⟨#[]⟩)⟩ := ⟨⟨by show (0 : Int) ≤ 1; omega, by show (1 : Int) ≤ 6; omega⟩, ⟨by show (0 : Int) ≤ (x.ls.length : Int) + 1; omega, by show (x.ls.length : Int) + 1 ≤ 50; omega⟩, e2⟩
   refine ⟨?_, hr⟩
   dsimp only
   split
   ·have hd : OkO (dropO (kh c.ky) x.o) ∧ RiseO (dropO (kh c.ky) x.o) ∧ SepO (dropO (kh c.ky) x.o) := by
     have o1 := h.ok; have o2 := h.ri; have o3 := h.sp
     cases hx : x.o with
     | none => exact ⟨trivial, trivial, trivial⟩
     | some t =>
      rw [hx] at o1 o2 o3
      have f1 := dropT_ok (kh c.ky) t o1
      have f2 := dropT_facts (kh c.ky) t 0 o2 o3.1
      have f3 := dropT_lvN (kh c.ky) t
      have f4 := o3.2
      show OkO (dropT (kh c.ky) t) ∧ RiseO (dropT (kh c.ky) t) ∧ SepO (dropT (kh c.ky) t)
      cases hd : dropT (kh c.ky) t with
      | none => exact ⟨trivial, trivial, trivial⟩
      | some t' =>
       rw [hd] at f1 f2 f3
       exact ⟨f1, f2.1, f2.2.1, Nat.le_trans f3 f4⟩
    exact ⟨hn, hls, hd.1, hd.2.1, hd.2.2, h.m, h.rs, h.sb⟩
   ·have f1 := putO_rise c.ky (vbV c.kd c.vl ((getV x.o c.ky).getD ⟨#[]⟩)) h.ri h.sp
    exact ⟨hn, hls, mpT_ok h.ok hv, f1.1, ⟨f1.2, put_lvN h.ok h.sp k1 (fun e => e3 (by rw [e]; rfl))⟩, h.m, h.rs, h.sb⟩
theorem ap_ok {x : Lst} (h : LOK x) {c : Cm} (hc : cmK c = true) : LOK (apOut x c).1 ∧ ReOK (apOut x c).2 := by
 have hses := cmK_ses hc
 unfold apOut
 split
 ·split
  ·exact ⟨h, reOK_of 5 (by omega) (by omega)⟩
  ·split
   ·exact ⟨h, reOK_of 6 (by omega) (by omega)⟩
   ·rename_i h1 h2 h3
    have hp := pos_is (id := c.ss) h.rs
    refine ⟨⟨h.n, h.h, h.ok, h.ri, h.sp, ?_, ins_rise h.rs (by simpa using h2), ?_⟩, reOK_of 1 (by omega) (by omega)⟩
    ·show (insS _ _ _).length ≤ 8
     rw [insS_len _ _ _ hp.le]; have := h.m; omega
    ·intro s hs
     show (0 ≤ s.id ∧ s.id ≤ 65535) ∧ _
     rcases List.mem_append.1 hs with hs | hs
     ·exact h.sb s (List.mem_of_mem_take hs)
     ·rcases List.mem_cons.1 hs with rfl | hs
      ·exact ⟨hses, ⟨by show (0:Int) ≤ 0; omega, by show (0:Int) ≤ 65535; omega⟩, ⟨by show (0:Int) ≤ 0; omega, by show (0:Int) ≤ 6; omega⟩, ⟨by show (0:Int) ≤ 0; omega, by show (0:Int) ≤ 50; omega⟩, by show (⟨#[]⟩ : ByteArray).size ≤ 60; decide⟩
      ·exact h.sb s (List.mem_of_mem_drop hs)
 ·split
  ·exact ⟨h, reOK_of 4 (by omega) (by omega)⟩
  ·rename_i h1 h2
   have hh : hasS x.ss c.ss = true := by simpa using h2
   obtain ⟨p1, p2⟩ := has_iff.1 hh
   split
   ·refine ⟨⟨h.n, h.h, h.ok, h.ri, h.sp, ?_, del_rise h.rs p1, ?_⟩, reOK_of 1 (by omega) (by omega)⟩
    ·show (delS _ _).length ≤ 8
     rw [delS_len _ _ p1]; have := h.m; omega
    ·intro s hs
     rcases List.mem_append.1 hs with hs | hs
     ·exact h.sb s (List.mem_of_mem_take hs)
     ·exact h.sb s (List.mem_of_mem_drop hs)
   ·rename_i h5
    obtain ⟨k1, k2, k3, k4, k5⟩ := cmK_key hc h1 h5
    obtain ⟨s1, s2, s3, s4, s5⟩ := h.sb _ (getD_mem p1)
    unfold svOut
    split
    ·exact ⟨h, s3, s4, s5⟩
    ·split
     ·exact ⟨h, reOK_of 3 (by omega) (by omega)⟩
     ·obtain ⟨g, gr⟩ := ch_ok h hc h1 h5
      refine ⟨⟨g.n, g.h, g.ok, g.ri, g.sp, by simp; exact h.m, set_rise h.rs p1 rfl, ?_⟩, gr⟩
      intro s hs
      rcases List.mem_or_eq_of_mem_set hs with hs | rfl
      ·exact h.sb s hs
      ·exact ⟨s1, k3, gr.1, gr.2.1, gr.2.2⟩
end Go.Proofs.YtnhhnjmjodmacaaGreatDoor.Sha
namespace Go.Proofs.YtnhhnjmjodmacaaGreatDoor.Sha
set_option maxRecDepth 100000
set_option maxHeartbeats 8000000
open Go.ChangeShapes Go.WideShapes Go.ChangeAt Go.RowKit Go.Deep
set_option linter.unusedVariables false
theorem eqBranch_of (k v : ByteArray) (at_ : Int) (a a2 : Option Addr) (n n2 cap cap2 : Nat) (w : World)
  (HK : ∀ wx, Below w.heap.size w wx → Calls Tryz.prog 79 #[.slice a n cap, .slice a2 n2 cap2] wx fun e w' => e = .returned (.bool true) ∧ Below wx.heap.size wx w') :
  Calls Tryz.prog 42 #[.agg #[.string k, .string v, .int .i64 at_, .slice a n cap], .agg #[.string k, .string v, .int .i64 at_, .slice a2 n2 cap2]] w fun e w' => e = .returned (.bool true) ∧ Below w.heap.size w w' := by
 have HKK := Hd HK
 have B0 := Hd ((bal w (.cells #[.string k, .string v, .int .i64 at_, .slice a n cap] 35)).alloc (by simp) (.cells #[.string k, .string v, .int .i64 at_, .slice a2 n2 cap2] 35))
 clear HK
 go_enter Tryz.func42, Tryz.ntmps42
 go_wp2_with fail
 refine (uh HKK _ (uh B0)).mono ?_
 rintro e w1 ⟨rfl, hb1⟩
 have B1 := hbt B0 hb1
 clear hb1
 go_wp2_with fail
 go_ret
 exact ⟨rfl, uh B1⟩
theorem eqBranchS_any {S : Nat → Prop} {w0 : World} {v : Value} {l : List Br} (h : Brs S w0 v l) : ∀ (S2 : Nat → Prop) (v2 : Value) (w : World), Below w0.heap.size w0 w → Brs S2 w v2 l →
  Calls Tryz.prog 79 #[v, v2] w fun e w' => e = .returned (.bool true) ∧ Below w.heap.size w w' := by
 induction h with
 | nil a cap hc =>
  intro S2 v2 w hb0 h2
  obtain ⟨a2, cap2, rfl, _, _⟩ := h2.shape
  clear hb0 hc h2
  go_enter Tryz.func79, Tryz.ntmps79
  go_wp2_with fail
  go_loopw [5] (fun i wr => i = .int .i64 0 ∧ wr = w) (fun i _ => 0)
  case atStart => exact ⟨rfl, rfl⟩
  case round =>
   obtain ⟨rfl, hwr⟩ := hrel
   subst wr
   go_wp2_with fail
   go_ret
   exact ⟨rfl, Below.refl _ _⟩
 | row b off cap l kv p0 p1 p2 p3 p4 p5 p6 p7 ih =>
  intro S2 v2 w hb0 h2
  have HC := Hd (BrAt.mk p3 p4 p5 p6 p7 : BrAt S w0 b off l kv)
  have HI := Hd ih
  have HB0 := Hd hb0
  have hlm : l.length ≤ 9223372036854775807 := by unfold maxLen at p2; omega
  obtain ⟨a2, cap2, rfl, _, _⟩ := h2.shape
  obtain ⟨b2, off2, kv2, rfl, _, hat2⟩ := h2.at p0
  have HC2 := Hd hat2
  clear p3 p4 p5 p6 p7 ih hb0 p1 p2 h2 hat2
  go_enter Tryz.func79, Tryz.ntmps79
  go_wp2_with fail
  go_loopw [5] (fun i wr => ∃ k : Nat, k ≤ l.length ∧ i = .int .i64 k ∧ Below w.heap.size w wr) (fun i _ => l.length - (intOf i).toNat)
  case atStart => exact ⟨0, Nat.zero_le _, rfl, Below.refl _ _⟩
  case round =>
   obtain ⟨k, hk, rfl, hb⟩ := hrel
   by_cases hlt : k < l.length
   ·obtain ⟨s0, s1, s2, s3⟩ := (uh HC).cells k hlt
    obtain ⟨t0, t1, t2, t3⟩ := (uh HC2).cells k hlt
    have hbl := (uh HC).lt
    have hbl2 := (uh HC2).lt
    have hb00 := (uh HB0).trans (hb.mono (uh HB0).size)
    have c0 := (hb00.cell (p := ⟨b, off + k * 4, none⟩) hbl).trans s0
    have c1 := (hb00.cell (p := ⟨b, off + k * 4 + 1, none⟩) hbl).trans s1
    have c2 := (hb00.cell (p := ⟨b, off + k * 4 + 2, none⟩) hbl).trans s2
    have c3 := (hb00.cell (p := ⟨b, off + k * 4 + 3, none⟩) hbl).trans s3
    have d0 := (hb.cell (p := ⟨b2, off2 + k * 4, none⟩) hbl2).trans t0
    have d1 := (hb.cell (p := ⟨b2, off2 + k * 4 + 1, none⟩) hbl2).trans t1
    have d2 := (hb.cell (p := ⟨b2, off2 + k * 4 + 2, none⟩) hbl2).trans t2
    have d3 := (hb.cell (p := ⟨b2, off2 + k * 4 + 3, none⟩) hbl2).trans t3
    obtain ⟨ka, kc, hkv, _, _⟩ := ((uh HC).kids k hlt).shape
    obtain ⟨ka2, kc2, hkv2, _, _⟩ := ((uh HC2).kids k hlt).shape
    have hk0 : (0 : Int) ≤ (k : Int) := by omega
    have hk1 : (k : Int) < (l.length : Int) := by omega
    have hbs := hb.size
    have hz1 : b < wr.heap.size := Nat.lt_of_lt_of_le hbl hb00.size
    have hz2 : b2 < wr.heap.size := Nat.lt_of_lt_of_le hbl2 hbs
    have HB := Hd hb
    have HT := Hd (fun wx (hbx : Below w.heap.size w wx) => eqBranch_of (l.getD k default).key (l.getD k default).val (l.getD k default).at_ ka ka2 (l.getD k default).kids.length (l.getD k default).kids.length kc kc2 wx
     (fun wy q2 => by
      have hwy := hbx.trans (q2.mono hbx.size)
      have := uh HI k hlt S2 (kv2 k) wy ((uh HB0).trans (hwy.mono (uh HB0).size)) (((uh HC2).kids k hlt).blw hwy)
      rw [hkv, hkv2] at this
      exact this))
    rw [hkv] at c3
    rw [hkv2] at d3
    clear hb00 s0 s1 s2 s3 t0 t1 t2 t3 hb hkv hkv2 hbl hbl2
    generalize (l.getD k default).key = fk at *
    generalize (l.getD k default).val = fv at *
    generalize (l.getD k default).at_ = fa at *
    generalize (l.getD k default).kids.length = fn at *
    go_wp2_with fail
    go_region_held3 (fun wx => wx.cell? ⟨b, off + k * 4, none⟩ = some (.string fk) ∧ wx.cell? ⟨b, off + k * 4 + 1, none⟩ = some (.string fv) ∧ wx.cell? ⟨b, off + k * 4 + 2, none⟩ = some (.int .i64 fa) ∧ wx.cell? ⟨b, off + k * 4 + 3, none⟩ = some (.slice ka fn kc) ∧ wx.cell? ⟨b2, off2 + k * 4, none⟩ = some (.string fk) ∧ wx.cell? ⟨b2, off2 + k * 4 + 1, none⟩ = some (.string fv) ∧ wx.cell? ⟨b2, off2 + k * 4 + 2, none⟩ = some (.int .i64 fa) ∧ wx.cell? ⟨b2, off2 + k * 4 + 3, none⟩ = some (.slice ka2 fn kc2))
     (first | go_keep | exact ⟨(hb2.cell (p := ⟨b, off + k * 4, none⟩) hz1).trans c0, (hb2.cell (p := ⟨b, off + k * 4 + 1, none⟩) hz1).trans c1, (hb2.cell (p := ⟨b, off + k * 4 + 2, none⟩) hz1).trans c2, (hb2.cell (p := ⟨b, off + k * 4 + 3, none⟩) hz1).trans c3, (hb2.cell (p := ⟨b2, off2 + k * 4, none⟩) hz2).trans d0, (hb2.cell (p := ⟨b2, off2 + k * 4 + 1, none⟩) hz2).trans d1, (hb2.cell (p := ⟨b2, off2 + k * 4 + 2, none⟩) hz2).trans d2, (hb2.cell (p := ⟨b2, off2 + k * 4 + 3, none⟩) hz2).trans d3⟩)
     ((go_at_call 42; refine (uh HT _ (below_drewN (uh HB) 1)).mono ?_; rintro e w2 ⟨rfl, hb2⟩))
    all_goals
     have HBZ := Hd ((uh HB).trans (show Below w.heap.size wr w2 from (below_drewN (Below.refl _ wr) 1).trans (hb2.mono (by simpa using hbs))))
     clear hb2 HB HT
     go_wp2_with fail
     refine ⟨⟨k + 1, by omega, by go_num, uh HBZ⟩, ?_⟩
     simp [intOf]; omega
   ·have HB := Hd hb
    clear hb
    go_wp2_with fail
    go_ret
    exact ⟨rfl, uh HB⟩
structure LedR (w : World) (lv kv sv : Value) (ls : List ByteArray) (ks : List Br) (ss : List Se) : Prop where
 lv : Strs w lv ls
 kv : Brs (fun _ => True) w kv ks
 sv : Sess w sv ss
theorem LedR.below {w w' : World} {lv kv sv : Value} {ls : List ByteArray} {ks : List Br} {ss : List Se} (h : LedR w lv kv sv ls ks ss) (hb : Below w.heap.size w w') : LedR w' lv kv sv ls ks ss := ⟨h.lv.below hb, h.kv.blw hb, h.sv.below hb⟩
theorem LedR.shape {w : World} {lv kv sv : Value} {ls : List ByteArray} {ks : List Br} {ss : List Se} (h : LedR w lv kv sv ls ks ss) :
  ∃ la lc ka kc sa sc, lv = .slice la ls.length lc ∧ kv = .slice ka ks.length kc ∧ sv = .slice sa ss.length sc ∧ ls.length ≤ maxLen ∧ ks.length ≤ maxLen ∧ ss.length ≤ maxLen := by
 obtain ⟨la, lc, h1, h2, _⟩ := h.lv
 obtain ⟨ka, kc, h3, h4, h5⟩ := h.kv.shape
 obtain ⟨sa, sc, h6, h7, h8, _⟩ := h.sv
 exact ⟨la, lc, ka, kc, sa, sc, h1, h3, h6, h2, by omega, by omega⟩
def LedO (B : Nat) (w : World) (lv kv sv : Value) (ls : List ByteArray) (ks : List Br) (ss : List Se) : Prop :=
 OwnS B w lv ls ∧ OwnSe B w sv ss ∧ (∀ x, lv.ownBlock = some x → sv.ownBlock ≠ some x) ∧ ∃ S : Nat → Prop, BrO w S kv ks ∧ ∀ x, S x → B ≤ x ∧ x < w.heap.size ∧ lv.ownBlock ≠ some x ∧ sv.ownBlock ≠ some x
theorem LedO.led {B : Nat} {w : World} {lv kv sv : Value} {ls : List ByteArray} {ks : List Br} {ss : List Se} (h : LedO B w lv kv sv ls ks ss) : LedR w lv kv sv ls ks ss := by
 obtain ⟨h1, h2, _, S, h3, _⟩ := h
 exact ⟨h1.strs, h3.brs.mono (fun _ _ => trivial), h2.read⟩
theorem LedO.below {B : Nat} {w w' : World} {lv kv sv : Value} {ls : List ByteArray} {ks : List Br} {ss : List Se} (h : LedO B w lv kv sv ls ks ss) (hb : Below w.heap.size w w') : LedO B w' lv kv sv ls ks ss := by
 obtain ⟨h1, h2, h4, S, h3, h5⟩ := h
 exact ⟨h1.below hb, h2.below hb, h4, S, h3.blw hb, fun x hx => ⟨(h5 x hx).1, Nat.lt_of_lt_of_le (h5 x hx).2.1 hb.size, (h5 x hx).2.2⟩⟩
theorem eqLedger_any (ls : List ByteArray) (k v : ByteArray) (a : Int) (ks : List Br) (ss : List Se) (la : Option Addr) (lc : Nat) (ka : Option Addr) (kc : Nat) (sa : Option Addr) (sc : Nat) (la2 : Option Addr) (lc2 : Nat) (ka2 : Option Addr) (kc2 : Nat) (sa2 : Option Addr) (sc2 : Nat) (w : World)
  (h : LedR w (.slice la ls.length lc) (.slice ka ks.length kc) (.slice sa ss.length sc) ls ks ss) (h' : LedR w (.slice la2 ls.length lc2) (.slice ka2 ks.length kc2) (.slice sa2 ss.length sc2) ls ks ss) (h1 : ls.length ≤ 1048576) (h3 : ss.length ≤ 1048576) :
  Calls Tryz.prog 12 #[.agg #[.slice la ls.length lc, .string k, .string v, .int .i64 a, .slice ka ks.length kc, .slice sa ss.length sc], .agg #[.slice la2 ls.length lc2, .string k, .string v, .int .i64 a, .slice ka2 ks.length kc2, .slice sa2 ss.length sc2]] w fun e w' => e = .returned (.bool true) ∧ Below w.heap.size w w' := by
 have HE1 := Hd (fun wx (hx : Below w.heap.size w wx) => eqStringS_any _ _ ls wx (h.lv.below hx) (h'.lv.below hx) h1)
 have HE2 := Hd (fun wx (hx : Below w.heap.size w wx) => eqBranch_of k v a ka ka2 ks.length ks.length kc kc2 wx (fun wy hy => eqBranchS_any (h.kv.blw hx) _ _ wy hy (h'.kv.blw (hx.trans (hy.mono hx.size)))))
 have HE3 := Hd (fun wx (hx : Below w.heap.size w wx) => eqSessionS_any _ _ ss wx (h.sv.below hx) (h'.sv.below hx) h3)
 have B0 := Hd ((bal w (.cells #[.slice la ls.length lc, .string k, .string v, .int .i64 a, .slice ka ks.length kc, .slice sa ss.length sc] 38)).alloc (by simp) (.cells #[.slice la2 ls.length lc2, .string k, .string v, .int .i64 a, .slice ka2 ks.length kc2, .slice sa2 ss.length sc2] 38))
 have X0 := Hd ((Blk.new w #[.slice la ls.length lc, .string k, .string v, .int .i64 a, .slice ka ks.length kc, .slice sa ss.length sc] 38 w.heap.size rfl).alloc (.cells #[.slice la2 ls.length lc2, .string k, .string v, .int .i64 a, .slice ka2 ks.length kc2, .slice sa2 ss.length sc2] 38))
 have Y0 := Hd (Blk.new (w.alloc (.cells #[.slice la ls.length lc, .string k, .string v, .int .i64 a, .slice ka ks.length kc, .slice sa ss.length sc] 38)) #[.slice la2 ls.length lc2, .string k, .string v, .int .i64 a, .slice ka2 ks.length kc2, .slice sa2 ss.length sc2] 38 (w.heap.size + 1) (by simp))
 clear h h' h1 h3
 go_enter Tryz.func12, Tryz.ntmps12
 go_wp2_with fail
 generalize (w.alloc (.cells #[.slice la ls.length lc, .string k, .string v, .int .i64 a, .slice ka ks.length kc, .slice sa ss.length sc] 38)).alloc (.cells #[.slice la2 ls.length lc2, .string k, .string v, .int .i64 a, .slice ka2 ks.length kc2, .slice sa2 ss.length sc2] 38) = w0 at *
 refine (uh HE1 w0 (uh B0)).mono ?_
 rintro e w1 ⟨rfl, n1, hn1⟩
 have hb1 : Below w0.heap.size w0 w1 := by rw [hn1]; exact below_drewN (Below.refl _ _) n1
 clear hn1
 have K1 := hbt B0 hb1
 have X1 := (uh X0).below hb1
 have Y1 := (uh Y0).below hb1
 have x1 := X1.cell 1 rfl
 have x2 := X1.cell 2 rfl
 have x3 := X1.cell 3 rfl
 have x4 := X1.cell 4 rfl
 have y1 := Y1.cell 1 rfl
 have y2 := Y1.cell 2 rfl
 have y3 := Y1.cell 3 rfl
 have y4 := Y1.cell 4 rfl
 have HX := Hd X1
 have HY := Hd Y1
 clear hb1 X1 Y1 B0 X0 Y0 HE1
 go_wp2_with fail
 refine (uh HE2 w1 (uh K1)).mono ?_
 rintro e w2 ⟨rfl, hb2⟩
 have K2 := hbt K1 hb2
 have X2 := (uh HX).below hb2
 have Y2 := (uh HY).below hb2
 have x5 := X2.cell 5 rfl
 have y5 := Y2.cell 5 rfl
 clear hb2 X2 Y2 K1 HX HY x1 x2 x3 x4 y1 y2 y3 y4 HE2
 go_wp2_with fail
 refine (uh HE3 w2 (uh K2)).mono ?_
 rintro e w3 ⟨rfl, hb3⟩
 have K3 := hbt K2 hb3
 clear hb3
 go_wp2_with fail
 go_ret
 exact ⟨rfl, uh K3⟩
end Go.Proofs.YtnhhnjmjodmacaaGreatDoor.Sha
namespace Go.Proofs.YtnhhnjmjodmacaaGreatDoor
set_option maxRecDepth 100000
set_option maxHeartbeats 8000000
open Go.ChangeShapes Go.WideShapes Go.ChangeAt Go.RowKit
set_option linter.unusedVariables false
theorem sesC_one (l : List Se) : ∀ u ∈ sesC l, u.oneCell' = true := by
 intro u hu
 simp only [sesC, List.mem_flatMap] at hu
 obtain ⟨f, _, hf⟩ := hu
 simp only [seC, List.mem_cons, List.not_mem_nil, or_false] at hf
 rcases hf with rfl | rfl | rfl | rfl | rfl <;> rfl
theorem Sess.rw {w : World} {v : Value} {l : List Se} (h : Sess w v l) : Rw w v l.length (sesC l) := by
 obtain ⟨a, cap, rfl, hn, hm, hc⟩ := h
 refine ⟨a, cap, rfl, ?_⟩
 rcases hc with h0 | ⟨b, off, rfl, hlt, hc⟩
 ·exact .inl h0
 refine .inr ⟨_, rfl, fun j u hu => ?_⟩
 have hadd : (⟨b, off, none⟩ : Addr).add j = ⟨b, off + j, none⟩ := by unfold Addr.add; split <;> simp_all
 have hj : j < l.length * 5 := by
  have := (List.getElem?_eq_some_iff.1 hu).1
  rwa [sesC_len] at this
 obtain ⟨g0, g1, g2, g3, g4⟩ := sesC_get l (j / 5) (by omega)
 obtain ⟨c0, c1, c2, c3, c4⟩ := hc (j / 5) (by omega)
 rw [hadd]
 rcases (show j % 5 = 0 ∨ j % 5 = 1 ∨ j % 5 = 2 ∨ j % 5 = 3 ∨ j % 5 = 4 by omega) with e | e | e | e | e
 ·rw [show j / 5 * 5 = j by omega] at g0 c0
  rw [c0, ← g0, hu]
 ·rw [show j / 5 * 5 + 1 = j by omega] at g1
  rw [show off + j / 5 * 5 + 1 = off + j by omega] at c1
  rw [c1, ← g1, hu]
 ·rw [show j / 5 * 5 + 2 = j by omega] at g2
  rw [show off + j / 5 * 5 + 2 = off + j by omega] at c2
  rw [c2, ← g2, hu]
 ·rw [show j / 5 * 5 + 3 = j by omega] at g3
  rw [show off + j / 5 * 5 + 3 = off + j by omega] at c3
  rw [c3, ← g3, hu]
 ·rw [show j / 5 * 5 + 4 = j by omega] at g4
  rw [show off + j / 5 * 5 + 4 = off + j by omega] at c4
  rw [c4, ← g4, hu]
end Go.Proofs.YtnhhnjmjodmacaaGreatDoor
namespace Go.Proofs.YtnhhnjmjodmacaaGreatDoor.Sha
set_option maxRecDepth 100000
set_option maxHeartbeats 8000000
open Go.ChangeShapes Go.WideShapes Go.ChangeAt Go.RowKit
set_option linter.unusedVariables false
set_option linter.unusedSimpArgs false
def Bk (B : Nat) (w : World) (p : Nat) (lv : Value) (tp : Option Addr) (sv : Value) (S : Nat → Prop) (ls : List ByteArray) (o : Option Tr) (ss : List Se) : Prop :=
 Blk w p [lv, .pointer tp, sv] ∧ B ≤ p ∧ OwnS B w lv ls ∧ OwnSe B w sv ss ∧ PtrM w S tp o ∧ (∀ x, S x → B ≤ x ∧ x < w.heap.size ∧ x ≠ p ∧ lv.ownBlock ≠ some x ∧ sv.ownBlock ≠ some x) ∧ lv.ownBlock ≠ some p ∧ sv.ownBlock ≠ some p ∧ (∀ x, lv.ownBlock = some x → sv.ownBlock ≠ some x)
theorem Bk.below {B : Nat} {w w' : World} {p : Nat} {lv : Value} {tp : Option Addr} {sv : Value} {S : Nat → Prop} {ls : List ByteArray} {o : Option Tr} {ss : List Se} (h : Bk B w p lv tp sv S ls o ss) (hb : Below w.heap.size w w') : Bk B w' p lv tp sv S ls o ss := by
 obtain ⟨h1, h2, h3, h4, h5, h6, h7⟩ := h
 exact ⟨h1.below hb, h2, h3.below hb, h4.below hb, h5.blw hb, fun x hx => ⟨(h6 x hx).1, Nat.lt_of_lt_of_le (h6 x hx).2.1 hb.size, (h6 x hx).2.2⟩, h7⟩
end Go.Proofs.YtnhhnjmjodmacaaGreatDoor.Sha
