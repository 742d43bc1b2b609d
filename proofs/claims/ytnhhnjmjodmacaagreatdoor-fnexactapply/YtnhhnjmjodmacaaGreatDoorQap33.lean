/- What the proof of the claim needs (joined by program): ApK ClS LeI Tk. -/
import Derived.Test.YtnhhnjmjodmacaaGreatDoorQap29
import Derived.Test.YtnhhnjmjodmacaaGreatDoorQap32
import Derived.Test.YtnhhnjmjodmacaaGreatDoorQap15
import Derived.Test.YtnhhnjmjodmacaaGreatDoorQap02
import Derived.Test.YtnhhnjmjodmacaaGreatDoorQap30
import Derived.Test.YtnhhnjmjodmacaaGreatDoorQap23
import Derived.Test.YtnhhnjmjodmacaaGreatDoorQap03
import Derived.Test.YtnhhnjmjodmacaaGreatDoorQap31
import Derived.Test.YtnhhnjmjodmacaaGreatDoorQap12
import Derived.Test.YtnhhnjmjodmacaaGreatDoorQap00
import Derived.Deep.RegionLaw
import Derived.Deep.DeepCutAuto
import Derived.Deep.RegionHeld3
namespace Go.Proofs.YtnhhnjmjodmacaaGreatDoor.Sha
set_option maxRecDepth 100000
set_option maxHeartbeats 8000000
open Go.ChangeShapes Go.WideShapes Go.ChangeAt Go.RowKit
set_option linter.unusedVariables false
theorem ses_rise {l : List Se} (h : sesTo l l.length) : RiseS l := by
 have step : ∀ i, i + 1 < l.length → (l.getD i default).id < (l.getD (i + 1) default).id := fun i hi => by
  have h1 := h (i + 1) hi
  unfold sesAt at h1
  simp only [Bool.and_eq_true] at h1
  have h2 := (inB_iff.1 h1.1.1).1
  have h3 : leastS l (i + 1) = (l.getD i default).id + 1 := rfl
  omega
 have all : ∀ d i, i + d + 1 < l.length → (l.getD i default).id < (l.getD (i + d + 1) default).id := fun d => by
  induction d with
  | zero => exact fun i hi => step i hi
  | succ d ih =>
   intro i hi
   have h1 := ih i (by omega)
   have h2 := step (i + d + 1) (by omega)
   have e : i + (d + 1) + 1 = i + d + 1 + 1 := by omega
   rw [e]
   omega
 intro i j hij hj
 have h1 := all (j - i - 1) i (by omega)
 rw [show i + (j - i - 1) + 1 = j by omega] at h1
 exact h1
theorem ses_bounds {l : List Se} (h : sesTo l l.length) : ∀ s ∈ l, (0 ≤ s.id ∧ s.id ≤ 65535) ∧ (0 ≤ s.sq ∧ s.sq ≤ 65535) ∧ (0 ≤ s.kd ∧ s.kd ≤ 6) ∧ (0 ≤ s.pl ∧ s.pl ≤ 50) ∧ s.vl.size ≤ 60 := fun s hs => by
 obtain ⟨i, hi, e⟩ := mem_getD hs
 have h1 := h i hi
 have h0 := leastS_lo (l := l) (k := i) (fun j hj => h j (by omega))
 unfold sesAt repB at h1
 simp only [Bool.and_eq_true, decide_eq_true_eq] at h1
 rw [e] at h1
 have a := inB_iff.1 h1.1.1
 have b := inB_iff.1 h1.1.2
 have c := inB_iff.1 h1.2.1.1
 have d := inB_iff.1 h1.2.1.2
 exact ⟨⟨by omega, a.2⟩, b, c, d, h1.2.2⟩
theorem lok_of {ls : List ByteArray} {b : Br} {ss : List Se} {o : Option Tr} (h : ledB ls b ss = true) (hm : mapV b = some o) : LOK ⟨ls, o, ss⟩ := by
 unfold ledB at h
 simp only [Bool.and_eq_true, decide_eq_true_eq] at h
 obtain ⟨⟨⟨h1, h2⟩, _⟩, h4⟩ := h
 obtain ⟨h8, hst⟩ := sesB_all h4
 refine ⟨h1, fun s hs => ?_, (mapV_br hm).2, mapV_rise hm, mapV_sep hm, h8, ses_rise hst, ses_bounds hst⟩
 unfold allH at h2
 rw [List.all_eq_true] at h2
 simpa using h2 s hs
theorem ledB_map {ls : List ByteArray} {b : Br} {ss : List Se} (h : ledB ls b ss = true) : ∃ o, mapV b = some o := by
 unfold ledB at h
 simp only [Bool.and_eq_true] at h
 have h3 := h.1.2
 rw [mapB_V] at h3
 exact Option.isSome_iff_exists.1 h3
end Go.Proofs.YtnhhnjmjodmacaaGreatDoor.Sha
namespace Go.Proofs.YtnhhnjmjodmacaaGreatDoor
set_option maxRecDepth 100000
set_option maxHeartbeats 8000000
open Go.ChangeShapes Go.WideShapes Go.ChangeAt Go.RowKit
set_option linter.unusedVariables false
theorem sesC_one (l : List Se) : ∀ u ∈ sesC l, u.oneCell' = true := by
 intro u hu
 simp only [sesC, List.mem_flatMap] at hu
 obtain ⟨f, _, hf⟩ := hu
 simp only [seC, List.mem_cons, List.not_mem_nil, or_false] at hf
 rcases hf with rfl | rfl | rfl | rfl | rfl <;> rfl
theorem Sess.rw {w : World} {v : Value} {l : List Se} (h : Sess w v l) : Rw w v l.length (sesC l) := by
 obtain ⟨a, cap, rfl, hn, hm, hc⟩ := h
 refine ⟨a, cap, rfl, ?_⟩
 rcases hc with h0 | ⟨b, off, rfl, hlt, hc⟩
 ·exact .inl h0
 refine .inr ⟨_, rfl, fun j u hu => ?_⟩
 have hadd : (⟨b, off, none⟩ : Addr).add j = ⟨b, off + j, none⟩ := by unfold Addr.add; split <;> simp_all
 have hj : j < l.length * 5 := by
  have := (List.getElem?_eq_some_iff.1 hu).1
  rwa [sesC_len] at this
 obtain ⟨g0, g1, g2, g3, g4⟩ := sesC_get l (j / 5) (by omega)
 obtain ⟨c0, c1, c2, c3, c4⟩ := hc (j / 5) (by omega)
 rw [hadd]
 rcases (show j % 5 = 0 ∨ j % 5 = 1 ∨ j % 5 = 2 ∨ j % 5 = 3 ∨ j % 5 = 4 by omega) with e | e | e | e | e
 ·rw [show j / 5 * 5 = j by omega] at g0 c0
  rw [c0, ← g0, hu]
 ·rw [show j / 5 * 5 + 1 = j by omega] at g1
  rw [show off + j / 5 * 5 + 1 = off + j by omega] at c1
  rw [c1, ← g1, hu]
 ·rw [show j / 5 * 5 + 2 = j by omega] at g2
  rw [show off + j / 5 * 5 + 2 = off + j by omega] at c2
  rw [c2, ← g2, hu]
 ·rw [show j / 5 * 5 + 3 = j by omega] at g3
  rw [show off + j / 5 * 5 + 3 = off + j by omega] at c3
  rw [c3, ← g3, hu]
 ·rw [show j / 5 * 5 + 4 = j by omega] at g4
  rw [show off + j / 5 * 5 + 4 = off + j by omega] at c4
  rw [c4, ← g4, hu]
theorem own_noneT (w : World) (B X : Nat) (hX : w.heap.size = X) (hB : B ≤ X) : w.alloc (.cells #[] 9) |>.ownsRow B 9 1 (.slice (some ⟨X, 0, none⟩) 0 0) 0 [] :=
 ⟨rfl, .inr ⟨X, 0, #[], rfl, hB, by subst hX; exact heap_alloc_new w _, Nat.le_refl _, by unfold maxLen; omega, rfl, rfl⟩⟩
theorem cloneT_any (x : Addr) (cap : Nat) (l : List ByteArray) (w : World) (hs : Strs w (.slice (some x) l.length cap) l) (hl : l.length ≤ 4096) :
  Calls Tryz.prog 70 #[.slice (some x) l.length cap] w fun e w' => ∃ g c, e = .returned (.slice (some ⟨g, 0, none⟩) l.length c) ∧ OwnS w.heap.size w' (.slice (some ⟨g, 0, none⟩) l.length c) l ∧ w.heap.size ≤ g ∧ Below w.heap.size w w' := by
 obtain ⟨i0, hi, hz0, hz1, hz2⟩ := info_parts9
 have B0 := Hd (bal w (.cells #[] 9))
 have O0 := Hd (own_noneT w w.heap.size w.heap.size rfl (Nat.le_refl _))
 have HR := Hd ((hs.below (uh B0)).rw)
 have he : ∀ w : World, (binOp .eql 22 (.slice (some x) l.length cap) (.slice none 0 0)).run Tryz.prog w = .ok (.bool false) w := fun _ => rfl
 clear hs
 go_enter Tryz.func70, Tryz.ntmps70
 go_wp2_with (at_builtin; refine wpList_append_row _ rfl _ _ _ rfl w.heap.size 9 i0 _ 1 16 Tryz.underlying22 hi hz0 hz1 hz2 rfl (by omega) _ 0 [] rfl (uh O0) _ l.length (l.map Value.string) rfl (uh HR) (by simp) (by intro u hu; simp only [List.mem_map] at hu; obtain ⟨s, _, rfl⟩ := hu; rfl) (by unfold maxLen; omega) (by omega) (by simp) ?_; intro a1 c1 w1 hown1 hgrow1 hat1; have O1 := Hd hown1; have A1 := Hd hat1; have B1 := Hd ((uh B0).grown hgrow1 (by simp) (fun r hr => ((uh O0).lt r hr).1)); clear hown1 hgrow1 hat1)
 go_ret
 have h9 := uh O1
 rw [Nat.zero_add] at h9
 have hne : a1 ≠ none := fun e => by
  have := uh A1
  rw [e] at this
  rcases this with h | h <;> cases h
 rcases own_shape h9 with ⟨hv, h0⟩ | ⟨g, c, hv, hg, _⟩
 ·simp only [Value.slice.injEq] at hv
  exact absurd hv.1 hne
 ·simp only [Value.slice.injEq] at hv
  obtain ⟨rfl, _, rfl⟩ := hv
  exact ⟨g, c1, by simp, by simpa [OwnS] using h9, hg, uh B1⟩
theorem own_noneZ (w : World) (B X : Nat) (hX : w.heap.size = X) (hB : B ≤ X) : w.alloc (.cells #[] 106) |>.ownsRow B 106 5 (.slice (some ⟨X, 0, none⟩) 0 0) 0 [] :=
 ⟨rfl, .inr ⟨X, 0, #[], rfl, hB, by subst hX; exact heap_alloc_new w _, Nat.le_refl _, by unfold maxLen; omega, rfl, rfl⟩⟩
theorem cloneZ_any (x : Addr) (cap : Nat) (l : List Se) (w : World) (hs : Sess w (.slice (some x) l.length cap) l) (hl : l.length ≤ 4096) :
  Calls Tryz.prog 71 #[.slice (some x) l.length cap] w fun e w' => ∃ g c, e = .returned (.slice (some ⟨g, 0, none⟩) l.length c) ∧ OwnSe w.heap.size w' (.slice (some ⟨g, 0, none⟩) l.length c) l ∧ w.heap.size ≤ g ∧ Below w.heap.size w w' := by
 obtain ⟨i0, hi, hz0, hz1, hz2⟩ := info_parts infoSe
 have B0 := Hd (bal w (.cells #[] 106))
 have O0 := Hd (own_noneZ w w.heap.size w.heap.size rfl (Nat.le_refl _))
 have HR := Hd ((hs.below (uh B0)).rw)
 have he : ∀ w : World, (binOp .eql 36 (.slice (some x) l.length cap) (.slice none 0 0)).run Tryz.prog w = .ok (.bool false) w := fun _ => rfl
 clear hs
 go_enter Tryz.func71, Tryz.ntmps71
 go_wp2_with (at_builtin; refine wpList_append_row _ rfl _ _ _ rfl w.heap.size 106 i0 _ 5 48 Tryz.underlying36 hi hz0 hz1 hz2 rfl (by omega) _ 0 [] rfl (uh O0) _ l.length (sesC l) rfl (uh HR) (sesC_len l) (sesC_one l) (by unfold maxLen; omega) (by omega) (by simp) ?_; intro a1 c1 w1 hown1 hgrow1 hat1; have O1 := Hd hown1; have A1 := Hd hat1; have B1 := Hd ((uh B0).grown hgrow1 (by simp) (fun r hr => ((uh O0).lt r hr).1)); clear hown1 hgrow1 hat1)
 go_ret
 have h9 := uh O1
 rw [Nat.zero_add] at h9
 have hne : a1 ≠ none := fun e => by
  have := uh A1
  rw [e] at this
  rcases this with h | h <;> cases h
 rcases own_shape h9 with ⟨hv, h0⟩ | ⟨g, c, hv, hg, _⟩
 ·simp only [Value.slice.injEq] at hv
  exact absurd hv.1 hne
 ·simp only [Value.slice.injEq] at hv
  obtain ⟨rfl, _, rfl⟩ := hv
  exact ⟨g, c1, by simp, by simpa [OwnSe] using h9, hg, uh B1⟩
end Go.Proofs.YtnhhnjmjodmacaaGreatDoor
namespace Go.Proofs.YtnhhnjmjodmacaaGreatDoor.Sha
set_option maxRecDepth 100000
set_option maxHeartbeats 8000000
open Go.ChangeShapes Go.WideShapes Go.ChangeAt Go.RowKit
set_option linter.unusedVariables false
set_option linter.unusedSimpArgs false
def Bk (B : Nat) (w : World) (p : Nat) (lv : Value) (tp : Option Addr) (sv : Value) (S : Nat → Prop) (ls : List ByteArray) (o : Option Tr) (ss : List Se) : Prop :=
 Blk w p [lv, .pointer tp, sv] ∧ B ≤ p ∧ OwnS B w lv ls ∧ OwnSe B w sv ss ∧ PtrM w S tp o ∧ (∀ x, S x → B ≤ x ∧ x < w.heap.size ∧ x ≠ p ∧ lv.ownBlock ≠ some x ∧ sv.ownBlock ≠ some x) ∧ lv.ownBlock ≠ some p ∧ sv.ownBlock ≠ some p ∧ (∀ x, lv.ownBlock = some x → sv.ownBlock ≠ some x)
theorem Bk.below {B : Nat} {w w' : World} {p : Nat} {lv : Value} {tp : Option Addr} {sv : Value} {S : Nat → Prop} {ls : List ByteArray} {o : Option Tr} {ss : List Se} (h : Bk B w p lv tp sv S ls o ss) (hb : Below w.heap.size w w') : Bk B w' p lv tp sv S ls o ss := by
 obtain ⟨h1, h2, h3, h4, h5, h6, h7⟩ := h
 exact ⟨h1.below hb, h2, h3.below hb, h4.below hb, h5.blw hb, fun x hx => ⟨(h6 x hx).1, Nat.lt_of_lt_of_le (h6 x hx).2.1 hb.size, (h6 x hx).2.2⟩, h7⟩
def BookR (ls : List ByteArray) (b : Br) (ss : List Se) (w : World) (e : Ending) (w' : World) : Prop :=
 ∃ pv, e = .returned (.tuple #[.pointer pv, .bool (ledB ls b ss)]) ∧ Below w.heap.size w w' ∧ (ledB ls b ss = true → ∃ p g gc tp h hc S o, pv = some ⟨p, 0, none⟩ ∧ mapV b = some o ∧ Bk w.heap.size w' p (.slice (some ⟨g, 0, none⟩) ls.length gc) tp (.slice (some ⟨h, 0, none⟩) ss.length hc) S ls o ss)
theorem openBook_any (ls : List ByteArray) (k v : ByteArray) (a : Int) (ks : List Br) (ss : List Se) (lb loff lc : Nat) (ka : Option Addr) (kc : Nat) (sx : Addr) (sc : Nat) (w : World)
  (hS : SA w lb loff lc ls) (h : LedR w (.slice (some ⟨lb, loff, none⟩) ls.length lc) (.slice ka ks.length kc) (.slice (some sx) ss.length sc) ls ks ss) (t1 : ∀ i, (ls.getD i ByteArray.empty).size ≤ 1048576) (zk : k.size ≤ maxLen) (zv : v.size ≤ maxLen) (t3 : ∀ i, (ss.getD i default).vl.size ≤ 1048576) (ht : Tab w) :
  Calls Tryz.prog 37 #[.agg #[.slice (some ⟨lb, loff, none⟩) ls.length lc, .string k, .string v, .int .i64 a, .slice ka ks.length kc, .slice (some sx) ss.length sc]] w fun e w' => BookR ls (.mk k v a ks) ss w e w' := by
 have hlm : ls.length ≤ 9223372036854775807 := by have := hS.le; have := hS.mx; unfold maxLen at this; omega
 have B0 := Hd (bal w (.cells #[.slice (some ⟨lb, loff, none⟩) ls.length lc, .string k, .string v, .int .i64 a, .slice ka ks.length kc, .slice (some sx) ss.length sc] 38))
 have X0 := Hd (Blk.new w #[.slice (some ⟨lb, loff, none⟩) ls.length lc, .string k, .string v, .int .i64 a, .slice ka ks.length kc, .slice (some sx) ss.length sc] 38 w.heap.size rfl)
 have HH := Hd (containsFunc_any ls lb loff lc _ (hS.below (uh B0)) t1)
 have HSS := Hd (fun wx (hx : Below w.heap.size w wx) => sessionsOK_any _ ss wx (h.sv.below hx) t3)
 have HM := Hd (fun wx (hx : Below w.heap.size w wx) => readMap_any k v a ks _ _ wx (h.kv.blw hx) zk zv (ht.below hx))
 have HC1 := Hd (fun (hl : ls.length ≤ 4096) wx (hx : Below w.heap.size w wx) => cloneT_any _ _ ls wx (h.lv.below hx) hl)
 have HC2 := Hd (fun (hl : ss.length ≤ 4096) wx (hx : Below w.heap.size w wx) => cloneZ_any _ _ ss wx (h.sv.below hx) hl)
 clear h hS t1 t3 zk zv ht
 by_cases h1 : ls.length ≤ 50
 case neg =>
  have HD : Hid (ledB ls (.mk k v a ks) ss = false) := Hd (by unfold ledB; rw [decide_eq_false h1]; simp)
  have h1b : (50 : Int) < (ls.length : Int) := by omega
  go_enter Tryz.func37, Tryz.ntmps37
  go_wp2_with fail
  go_ret2
  exact ⟨none, by rw [uh HD]; rfl, uh B0, fun hx => by rw [uh HD] at hx; cases hx⟩
 have h1b : ¬ (50 : Int) < (ls.length : Int) := by omega
 rcases Bool.eq_false_or_eq_true (allH ls) with h2 | h2
 case inr =>
  have HD : Hid (ledB ls (.mk k v a ks) ss = false) := Hd (by unfold ledB; rw [h2]; simp)
  rw [h2] at HH
  go_enter Tryz.func37, Tryz.ntmps37
  go_wp2_with fail
  refine (uh HH).mono ?_
  rintro e w1 ⟨rfl, hw1⟩
  subst hw1
  go_wp2_with fail
  go_ret2
  exact ⟨none, by rw [uh HD]; rfl, uh B0, fun hx => by rw [uh HD] at hx; cases hx⟩
 rw [h2] at HH
 rcases Bool.eq_false_or_eq_true (sesB ss) with h4 | h4
 case inr =>
  have HD : Hid (ledB ls (.mk k v a ks) ss = false) := Hd (by unfold ledB; rw [h4]; simp)
  rw [h4] at HSS
  go_enter Tryz.func37, Tryz.ntmps37
  go_wp2_with fail
  refine (uh HH).mono ?_
  rintro e w1 ⟨rfl, hw1⟩
  subst hw1
  go_wp2_with fail
  refine (uh HSS _ (uh B0)).mono ?_
  rintro e w2 ⟨rfl, hb2⟩
  have K2 := hbt B0 hb2
  clear hb2
  go_wp2_with fail
  go_ret2
  exact ⟨none, by rw [uh HD]; rfl, uh K2, fun hx => by rw [uh HD] at hx; cases hx⟩
 rw [h4] at HSS
 have HC1b := Hd (uh HC1 (by omega))
 have HC2b := Hd (uh HC2 (by have := (sesB_all h4).1; omega))
 have HLB : Hid (ledB ls (.mk k v a ks) ss = mapB (.mk k v a ks)) := Hd (by unfold ledB; rw [decide_eq_true h1, h2, h4]; simp)
 unfold BookR
 rw [uh HLB]
 clear HC1 HC2
 go_enter Tryz.func37, Tryz.ntmps37
 go_wp2_with fail
 refine (uh HH).mono ?_
 rintro e w1 ⟨rfl, hw1⟩
 subst hw1
 go_wp2_with fail
 refine (uh HSS _ (uh B0)).mono ?_
 rintro e w2 ⟨rfl, hb2⟩
 have K2 := hbt B0 hb2
 have X2 := (uh X0).below hb2
 have x21 := X2.cell 1 rfl
 have x22 := X2.cell 2 rfl
 have x23 := X2.cell 3 rfl
 have x24 := X2.cell 4 rfl
 have HX2 := Hd X2
 clear hb2 HH HSS X0 B0 X2
 go_wp2_with fail
 refine (uh HM w2 (uh K2)).mono ?_
 rintro e w3 ⟨pv, rfl, hb3, hmv⟩
 have K3 := hbt K2 hb3
 have X3 := (uh HX2).below hb3
 have x30 := X3.cell 0 rfl
 have x35 := X3.cell 5 rfl
 have hX3 := X3.1
 have HX3 := Hd X3
 have hz3 := hb3.size
 have hz2 := (uh K2).size
 clear hb3 X3 HX2 x21 x22 x23 x24 HM
 rcases Bool.eq_false_or_eq_true (mapB (.mk k v a ks)) with h3 | h3
 case inr =>
  rw [h3]
  go_wp2_with fail
  go_ret2
  exact ⟨none, by rw [h3]; rfl, uh K3, fun hx => by rw [h3] at hx; cases hx⟩
 rw [h3]
 obtain ⟨o, ho⟩ : ∃ o, mapV (.mk k v a ks) = some o := by
  rw [mapB_V] at h3
  exact Option.isSome_iff_exists.1 h3
 rw [ho] at hmv
 have HMV := Hd hmv
 clear hmv
 have K3d := Hd (below_drewN (uh K3) 1)
 have HD3 := Hd (below_drewN (Below.refl w3.heap.size w3) 1)
 go_wp2_with fail
 go_region_held3 (fun wx => wx.cell? ⟨w.heap.size, 0, none⟩ = some (.slice (some ⟨lb, loff, none⟩) ls.length lc) ∧ wx.cell? ⟨w.heap.size, 5, none⟩ = some (.slice (some sx) ss.length sc))
  (first | go_keep | exact ⟨(hb5.cell (p := ⟨w.heap.size, 0, none⟩) hX4).trans x40, (hb5.cell (p := ⟨w.heap.size, 5, none⟩) hX4).trans x45⟩ | exact ⟨x40, x45⟩)
  (first
   | (go_at_call 71; refine (uh HC2b _ K4).mono ?_; rintro e w5 ⟨g5, c5, rfl, hO5, hg5, hb5⟩)
   | (go_at_call 70; refine (uh HC1b _ (uh K3d)).mono ?_; rintro e w4 ⟨g4, c4, rfl, hO4, hg4, hb4⟩; have x40 := (hb4.cell (p := ⟨w.heap.size, 0, none⟩) hX3).trans x30; have x45 := (hb4.cell (p := ⟨w.heap.size, 5, none⟩) hX3).trans x35; have hX4 := Nat.lt_of_lt_of_le hX3 hb4.size; have K4 := (uh K3d).trans (hb4.mono (uh K3d).size)))
 all_goals
  rename_i hHeld
  clear hHeld
  have BB := bal w5 (.cells #[.slice (some ⟨g4, 0, none⟩) ls.length c4, .pointer pv, .slice (some ⟨g5, 0, none⟩) ss.length c5] 92)
  have K5 := Hd (K4.trans ((hb5.trans (BB.mono hb5.size)).mono K4.size))
  have hlt4 := hO4.lt g4 rfl
  have hlt5 := hO5.lt g5 rfl
  have hs4 := hb4.size
  have hs5 := hb5.size
  have hd : (w3.drewN 1).heap.size = w3.heap.size := rfl
  have hK := K4.size
  have hsz : (w5.alloc (.cells #[.slice (some ⟨g4, 0, none⟩) ls.length c4, .pointer pv, .slice (some ⟨g5, 0, none⟩) ss.length c5] 92)).heap.size = w5.heap.size + 1 := by simp
  have FB : Hid (Bk w.heap.size (w5.alloc (.cells #[.slice (some ⟨g4, 0, none⟩) ls.length c4, .pointer pv, .slice (some ⟨g5, 0, none⟩) ss.length c5] 92)) w5.heap.size (.slice (some ⟨g4, 0, none⟩) ls.length c4) pv (.slice (some ⟨g5, 0, none⟩) ss.length c5) (fun x => w2.heap.size ≤ x ∧ x < w3.heap.size) ls o ss) := Hd (by
   refine ⟨Blk.new w5 #[.slice (some ⟨g4, 0, none⟩) ls.length c4, .pointer pv, .slice (some ⟨g5, 0, none⟩) ss.length c5] 92 w5.heap.size rfl, by omega, own_downS ((hO4.below hb5).below BB) (by omega), (hO5.below BB).down (by omega), ((((uh HMV).blw (uh HD3)).blw hb4).blw hb5).blw BB, ?_, ?_, ?_, ?_⟩
   ·intro x hx
    simp only [Value.ownBlock, hsz]
    refine ⟨by omega, by omega, by omega, ?_, ?_⟩ <;> (intro hq; simp at hq; omega)
   ·simp [Value.ownBlock]; omega
   ·simp [Value.ownBlock]; omega
   ·intro x hx
    simp [Value.ownBlock] at hx ⊢
    omega)
  clear BB hlt4 hlt5 hs4 hs5 hK hsz hb4 hb5 hO4 hO5 K4 x40 x45 hX4
  go_wp2_with fail
  go_ret2
  exact ⟨_, by rw [h3]; rfl, uh K5, fun _ => ⟨_, _, _, _, _, _, _, o, rfl, ho, uh FB⟩⟩
end Go.Proofs.YtnhhnjmjodmacaaGreatDoor.Sha
namespace Go.Proofs.YtnhhnjmjodmacaaGreatDoor
set_option maxRecDepth 100000
set_option maxHeartbeats 8000000
open Go.ChangeShapes Go.WideShapes Go.ChangeAt Go.RowKit
set_option linter.unusedVariables false
theorem tkH {P : Program} {md : Region.Mode} {ops : Array Oper} {Q : Exit → Act → World → Prop} {S : World → Prop} (i : Nat) {oi : Oper} {v : Value} {fuel : Nat} {listed : Array Bool} {a a' : Act} {w : World} (hi : ops[i]? = some oi)
  (h : wpAnyH P md ops Q S fuel (listed.setIfInBounds i true) a' w)
  (hs : Region.noSelect ops = true := by kernel_rfl) (hf : Region.free md ops listed i = true := by kernel_rfl) (hr : (Region.ready md ops listed).contains i = true := by kernel_rfl)
  (hQ : ∀ c a w, Q (.panic c) (a.put oi.dst v) w → Q (.panic c) a w := by exact fun _ _ _ h => h) (hy : YieldsIf P ops S oi v a := by (refine Or.inl ⟨by rfl, ?_⟩; intro wq hSw; (try dsimp only at hSw); (try simp only [List.getElem_toArray, List.getElem_cons_succ, List.getElem_cons_zero]); go_simp; try with_reducible rfl)) (hS : S w := by assumption)
  (ha : a.put oi.dst v = a' := by ((try simp only [Act.put, List.getElem_toArray, List.getElem_cons_succ, List.getElem_cons_zero, List.setIfInBounds_toArray, List.set_cons_zero, List.set_cons_succ]); try rfl)) : wpAnyH P md ops Q S (fuel + 1) listed a w := by
 subst ha
 exact wpAnyH_take hi hs hf hr hQ hy hS h
theorem outH {P : Program} {md : Region.Mode} {ops : Array Oper} {Q : Exit → Act → World → Prop} {S : World → Prop} {fuel : Nat} {L : Array Bool} {K : Act → World → Prop} {a a' : Act} {w : World} (hK : Shut (∀ a w, S w → (S w → wpAnyH P md ops Q S fuel L a w) → K a w)) (hS : S w) (h : S w → wpAnyH P md ops Q S fuel L a' w)
  (ha : a = a' := by ((try simp only [Act.put, List.getElem_toArray, List.getElem_cons_succ, List.getElem_cons_zero, List.setIfInBounds_toArray, List.set_cons_zero, List.set_cons_succ]); try rfl)) : K a w := by
 subst ha
 exact hK.out _ _ hS h
theorem rdy1 {P : Program} {md : Region.Mode} {ops : Array Oper} {Q : Exit → Act → World → Prop} {S : World → Prop} {fuel : Nat} {L : Array Bool} {a : Act} {w : World} (i : Nat) {oi : Oper} (ei : ops[i]? = some oi) (hi : ∀ K' : Act → World → Prop, Shut (∀ a w, S w → (S w → wpAnyH P md ops Q S fuel (L.setIfInBounds i true) a w) → K' a w) → if Region.wanted oi (yielded ops a.tmps) = true then Oper.wp P oi a w K' Q else K' (a.put oi.dst undef) w) (hr : Region.ready md ops L = [i] := by kernel_rfl) : wpAnyH P md ops Q S (fuel + 1) L a w :=
 wpAnyH_ready hr (by simp) (AllReadyH.cons ei hi AllReadyH.nil)
theorem rdy2 {P : Program} {md : Region.Mode} {ops : Array Oper} {Q : Exit → Act → World → Prop} {S : World → Prop} {fuel : Nat} {L : Array Bool} {a : Act} {w : World} (i j : Nat) {oi oj : Oper} (ei : ops[i]? = some oi) (ej : ops[j]? = some oj) (hi : ∀ K' : Act → World → Prop, Shut (∀ a w, S w → (S w → wpAnyH P md ops Q S fuel (L.setIfInBounds i true) a w) → K' a w) → if Region.wanted oi (yielded ops a.tmps) = true then Oper.wp P oi a w K' Q else K' (a.put oi.dst undef) w) (hj : ∀ K' : Act → World → Prop, Shut (∀ a w, S w → (S w → wpAnyH P md ops Q S fuel (L.setIfInBounds j true) a w) → K' a w) → if Region.wanted oj (yielded ops a.tmps) = true then Oper.wp P oj a w K' Q else K' (a.put oj.dst undef) w) (hr : Region.ready md ops L = [i, j] := by kernel_rfl) : wpAnyH P md ops Q S (fuel + 1) L a w :=
 wpAnyH_ready hr (by simp) (AllReadyH.cons ei hi (AllReadyH.cons ej hj AllReadyH.nil))
theorem rdy3 {P : Program} {md : Region.Mode} {ops : Array Oper} {Q : Exit → Act → World → Prop} {S : World → Prop} {fuel : Nat} {L : Array Bool} {a : Act} {w : World} (i j k : Nat) {oi oj ok : Oper} (ei : ops[i]? = some oi) (ej : ops[j]? = some oj) (ek : ops[k]? = some ok) (hi : ∀ K' : Act → World → Prop, Shut (∀ a w, S w → (S w → wpAnyH P md ops Q S fuel (L.setIfInBounds i true) a w) → K' a w) → if Region.wanted oi (yielded ops a.tmps) = true then Oper.wp P oi a w K' Q else K' (a.put oi.dst undef) w) (hj : ∀ K' : Act → World → Prop, Shut (∀ a w, S w → (S w → wpAnyH P md ops Q S fuel (L.setIfInBounds j true) a w) → K' a w) → if Region.wanted oj (yielded ops a.tmps) = true then Oper.wp P oj a w K' Q else K' (a.put oj.dst undef) w) (hk : ∀ K' : Act → World → Prop, Shut (∀ a w, S w → (S w → wpAnyH P md ops Q S fuel (L.setIfInBounds k true) a w) → K' a w) → if Region.wanted ok (yielded ops a.tmps) = true then Oper.wp P ok a w K' Q else K' (a.put ok.dst undef) w) (hr : Region.ready md ops L = [i, j, k] := by kernel_rfl) : wpAnyH P md ops Q S (fuel + 1) L a w :=
 wpAnyH_ready hr (by simp) (AllReadyH.cons ei hi (AllReadyH.cons ej hj (AllReadyH.cons ek hk AllReadyH.nil)))
theorem nrm {P : Program} {md : Region.Mode} {ops : Array Oper} {Q : Exit → Act → World → Prop} {S : World → Prop} {n : Nat} {L : Array Bool} {a a' : Act} {w : World} (h : wpAnyH P md ops Q S n L a' w) (e : a = a' := by ((try simp only [Act.put, List.getElem_toArray, List.getElem_cons_succ, List.getElem_cons_zero, List.setIfInBounds_toArray, List.set_cons_zero, List.set_cons_succ]); try rfl)) : wpAnyH P md ops Q S n L a w := by
 subst e; exact h
theorem nrmR {P : Program} {md : Region.Mode} {ops : Array Oper} {Q : Exit → Act → World → Prop} {S : World → Prop} {n : Nat} {L L' : Array Bool} {a a' : Act} {w : World} (h : wpAnyH P md ops Q S n L a w) (e : a = a' := by ((try simp only [Act.put, List.getElem_toArray, List.getElem_cons_succ, List.getElem_cons_zero, List.setIfInBounds_toArray, List.set_cons_zero, List.set_cons_succ]); try rfl)) (el : L = L' := by kernel_rfl) : wpAnyH P md ops Q S n L' a' w := by
 subst e; subst el; exact h
theorem newBox (w : World) (cs : Array Value) (t : TypeId) : Below w.heap.size w (w.alloc (.cells cs t)) ∧ Hid (Blk (w.alloc (.cells cs t)) w.heap.size cs.toList) := ⟨(Below.refl _ w).alloc (Nat.le_refl _) _, Hd (Blk.new w cs t w.heap.size rfl)⟩
theorem hbtr {a b c : World} (h : Hid (Below a.heap.size a b)) (k : Below b.heap.size b c) : Hid (Below a.heap.size a c) := hbt h k
theorem nameAt2 {α β γ δ : Type} (f : α → β → γ → δ → Prop) {x x' : α} {y y' : β} {z : γ} {u : δ} (hx : x = x') (hy : y = y') (h : ∀ F a0, F = f → a0 = z → F x' y' a0 u) : f x y z u := by
 subst hx; subst hy; exact h f z rfl rfl
end Go.Proofs.YtnhhnjmjodmacaaGreatDoor
