/- impl.openBook: a ledger made into a book. -/
import Derived.Test.YtinpoaghedhknaaDoorSeO
import Derived.Test.YtinpoaghedhknaaDoorLed
import Derived.Test.YtinpoaghedhknaaDoorMkH
import Derived.Test.YtinpoaghedhknaaDoorClS
import Derived.Test.YtinpoaghedhknaaDoorBrM
import Derived.Test.YtinpoaghedhknaaDoorLeS
import Derived.Deep.RegionLaw
import Derived.Deep.DeepCutAuto
namespace Go.Proofs.YtinpoaghedhknaaDoor.Sha
open Go.ChangeShapes Go.WideShapes Go.ChangeAt Go.RowKit
set_option linter.unusedVariables false
set_option linter.unusedSimpArgs false

/-- A book in memory: its leaves, its map, its sessions, all the call's own and apart. -/
def Bk (B : Nat) (w : World) (p : Nat) (lv : Value) (tp : Option Addr) (sv : Value) (S : Nat → Prop) (ls : List ByteArray) (o : Option Tr) (ss : List Se) : Prop :=
  Blk w p [lv, .pointer tp, sv] ∧ B ≤ p ∧ OwnS B w lv ls ∧ OwnSe B w sv ss ∧ PtrM w S tp o ∧ (∀ x, S x → B ≤ x ∧ x < w.heap.size ∧ x ≠ p ∧ lv.ownBlock ≠ some x ∧ sv.ownBlock ≠ some x) ∧ lv.ownBlock ≠ some p ∧ sv.ownBlock ≠ some p ∧ (∀ x, lv.ownBlock = some x → sv.ownBlock ≠ some x)
theorem Bk.below {B : Nat} {w w' : World} {p : Nat} {lv : Value} {tp : Option Addr} {sv : Value} {S : Nat → Prop} {ls : List ByteArray} {o : Option Tr} {ss : List Se} (h : Bk B w p lv tp sv S ls o ss) (hb : Below w.heap.size w w') : Bk B w' p lv tp sv S ls o ss := by
  obtain ⟨h1, h2, h3, h4, h5, h6, h7⟩ := h
  exact ⟨h1.below hb, h2, h3.below hb, h4.below hb, h5.blw hb, fun x hx => ⟨(h6 x hx).1, Nat.lt_of_lt_of_le (h6 x hx).2.1 hb.size, (h6 x hx).2.2⟩, h7⟩
def BookR (ls : List ByteArray) (b : Br) (ss : List Se) (w : World) (e : Ending) (w' : World) : Prop :=
  ∃ pv, e = .returned (.tuple #[.pointer pv, .bool (ledB ls b ss)]) ∧ Below w.heap.size w w' ∧ (ledB ls b ss = true → ∃ p g gc tp h hc S o, pv = some ⟨p, 0, none⟩ ∧ mapV b = some o ∧ Bk w.heap.size w' p (.slice (some ⟨g, 0, none⟩) ls.length gc) tp (.slice (some ⟨h, 0, none⟩) ss.length hc) S ls o ss)
set_option maxRecDepth 100000 in
set_option maxHeartbeats 2000000 in
theorem openBook_any (ls : List ByteArray) (k v : ByteArray) (a : Int) (ks : List Br) (ss : List Se) (lb loff lc : Nat) (ka : Option Addr) (kc : Nat) (sx : Addr) (sc : Nat) (w : World)
    (hS : SA w lb loff lc ls) (h : LedR w (.slice (some ⟨lb, loff, none⟩) ls.length lc) (.slice ka ks.length kc) (.slice (some sx) ss.length sc) ls ks ss) (t1 : ∀ i, (ls.getD i ByteArray.empty).size ≤ 1048576) (zk : k.size ≤ maxLen) (zv : v.size ≤ maxLen) (t3 : ∀ i, (ss.getD i default).vl.size ≤ 1048576) (ht : Tab w) :
    Calls Tryd.prog 22 #[.agg #[.slice (some ⟨lb, loff, none⟩) ls.length lc, .string k, .string v, .int .i64 a, .slice ka ks.length kc, .slice (some sx) ss.length sc]] w fun e w' => BookR ls (.mk k v a ks) ss w e w' := by
  have hlm : ls.length ≤ 9223372036854775807 := by have := hS.le; have := hS.mx; unfold maxLen at this; omega
  have B0 := hide ((Below.refl w.heap.size w).alloc (Nat.le_refl _) (.cells #[.slice (some ⟨lb, loff, none⟩) ls.length lc, .string k, .string v, .int .i64 a, .slice ka ks.length kc, .slice (some sx) ss.length sc] 37))
  have X0 := hide (Blk.new w #[.slice (some ⟨lb, loff, none⟩) ls.length lc, .string k, .string v, .int .i64 a, .slice ka ks.length kc, .slice (some sx) ss.length sc] 37 w.heap.size rfl)
  have HH := hide (containsFunc_any ls lb loff lc _ (hS.below (unhide B0)) t1)
  have HSS := hide (fun wx (hx : Below w.heap.size w wx) => sessionsOK_any _ ss wx (h.sv.below hx) t3)
  have HM := hide (fun wx (hx : Below w.heap.size w wx) => readMap_any k v a ks _ _ wx (h.kv.blw hx) zk zv (ht.below hx))
  have HC1 := hide (fun (hl : ls.length ≤ 4096) wx (hx : Below w.heap.size w wx) => cloneT_any _ _ ls wx (h.lv.below hx) hl)
  have HC2 := hide (fun (hl : ss.length ≤ 4096) wx (hx : Below w.heap.size w wx) => cloneZ_any _ _ ss wx (h.sv.below hx) hl)
  clear h hS t1 t3 zk zv ht
  by_cases h1 : ls.length ≤ 50
  case neg =>
    have HD : Hid (ledB ls (.mk k v a ks) ss = false) := hide (by unfold ledB; rw [decide_eq_false h1]; simp)
    have h1b : (50 : Int) < (ls.length : Int) := by omega
    go_enter Tryd.func22, Tryd.ntmps22
    go_wp2_with fail
    go_ret2
    exact ⟨none, by rw [unhide HD]; rfl, unhide B0, fun hx => by rw [unhide HD] at hx; cases hx⟩
  have h1b : ¬ (50 : Int) < (ls.length : Int) := by omega
  rcases Bool.eq_false_or_eq_true (allH ls) with h2 | h2
  case inr =>
    have HD : Hid (ledB ls (.mk k v a ks) ss = false) := hide (by unfold ledB; rw [h2]; simp)
    rw [h2] at HH
    go_enter Tryd.func22, Tryd.ntmps22
    go_wp2_with fail
    refine (unhide HH).mono ?_
    rintro e w1 ⟨rfl, hw1⟩
    subst hw1
    go_wp2_with fail
    go_ret2
    exact ⟨none, by rw [unhide HD]; rfl, unhide B0, fun hx => by rw [unhide HD] at hx; cases hx⟩
  rw [h2] at HH
  rcases Bool.eq_false_or_eq_true (sesB ss) with h4 | h4
  case inr =>
    have HD : Hid (ledB ls (.mk k v a ks) ss = false) := hide (by unfold ledB; rw [h4]; simp)
    rw [h4] at HSS
    go_enter Tryd.func22, Tryd.ntmps22
    go_wp2_with fail
    refine (unhide HH).mono ?_
    rintro e w1 ⟨rfl, hw1⟩
    subst hw1
    go_wp2_with fail
    refine (unhide HSS _ (unhide B0)).mono ?_
    rintro e w2 ⟨rfl, hb2⟩
    have K2 := hide ((unhide B0).trans (hb2.mono (unhide B0).size))
    clear hb2
    go_wp2_with fail
    go_ret2
    exact ⟨none, by rw [unhide HD]; rfl, unhide K2, fun hx => by rw [unhide HD] at hx; cases hx⟩
  rw [h4] at HSS
  have HC1b := hide (unhide HC1 (by omega))
  have HC2b := hide (unhide HC2 (by have := (sesB_all h4).1; omega))
  have HLB : Hid (ledB ls (.mk k v a ks) ss = mapB (.mk k v a ks)) := hide (by unfold ledB; rw [decide_eq_true h1, h2, h4]; simp)
  unfold BookR
  rw [unhide HLB]
  clear HC1 HC2
  go_enter Tryd.func22, Tryd.ntmps22
  go_wp2_with fail
  refine (unhide HH).mono ?_
  rintro e w1 ⟨rfl, hw1⟩
  subst hw1
  go_wp2_with fail
  refine (unhide HSS _ (unhide B0)).mono ?_
  rintro e w2 ⟨rfl, hb2⟩
  have K2 := hide ((unhide B0).trans (hb2.mono (unhide B0).size))
  have X2 := (unhide X0).below hb2
  have x21 := X2.cell 1 rfl
  have x22 := X2.cell 2 rfl
  have x23 := X2.cell 3 rfl
  have x24 := X2.cell 4 rfl
  have HX2 := hide X2
  clear hb2 HH HSS X0 B0 X2
  go_wp2_with fail
  refine (unhide HM w2 (unhide K2)).mono ?_
  rintro e w3 ⟨pv, rfl, hb3, hmv⟩
  have K3 := hide ((unhide K2).trans (hb3.mono (unhide K2).size))
  have X3 := (unhide HX2).below hb3
  have x30 := X3.cell 0 rfl
  have x35 := X3.cell 5 rfl
  have hX3 := X3.1
  have HX3 := hide X3
  have hz3 := hb3.size
  have hz2 := (unhide K2).size
  clear hb3 X3 HX2 x21 x22 x23 x24 HM
  rcases Bool.eq_false_or_eq_true (mapB (.mk k v a ks)) with h3 | h3
  case inr =>
    rw [h3]
    go_wp2_with fail
    go_ret2
    exact ⟨none, by rw [h3]; rfl, unhide K3, fun hx => by rw [h3] at hx; cases hx⟩
  rw [h3]
  obtain ⟨o, ho⟩ : ∃ o, mapV (.mk k v a ks) = some o := by
    rw [mapB_V] at h3
    exact Option.isSome_iff_exists.1 h3
  rw [ho] at hmv
  have HMV := hide hmv
  clear hmv
  have K3d := hide (below_drewN (unhide K3) 1)
  have HD3 := hide (below_drewN (Below.refl w3.heap.size w3) 1)
  go_wp2_with fail
  go_region_held3 (fun wx => wx.cell? ⟨w.heap.size, 0, none⟩ = some (.slice (some ⟨lb, loff, none⟩) ls.length lc) ∧ wx.cell? ⟨w.heap.size, 5, none⟩ = some (.slice (some sx) ss.length sc))
    (first | go_keep | exact ⟨(hb5.cell (p := ⟨w.heap.size, 0, none⟩) hX4).trans x40, (hb5.cell (p := ⟨w.heap.size, 5, none⟩) hX4).trans x45⟩ | exact ⟨x40, x45⟩)
    (first
      | (go_at_call 47; refine (unhide HC2b _ K4).mono ?_; rintro e w5 ⟨g5, c5, rfl, hO5, hg5, hb5⟩)
      | (go_at_call 46; refine (unhide HC1b _ (unhide K3d)).mono ?_; rintro e w4 ⟨g4, c4, rfl, hO4, hg4, hb4⟩; have x40 := (hb4.cell (p := ⟨w.heap.size, 0, none⟩) hX3).trans x30; have x45 := (hb4.cell (p := ⟨w.heap.size, 5, none⟩) hX3).trans x35; have hX4 := Nat.lt_of_lt_of_le hX3 hb4.size; have K4 := (unhide K3d).trans (hb4.mono (unhide K3d).size)))
  all_goals
    rename_i hHeld
    clear hHeld
    have BB := (Below.refl w5.heap.size w5).alloc (Nat.le_refl _) (.cells #[.slice (some ⟨g4, 0, none⟩) ls.length c4, .pointer pv, .slice (some ⟨g5, 0, none⟩) ss.length c5] 97)
    have K5 := hide (K4.trans ((hb5.trans (BB.mono hb5.size)).mono K4.size))
    have hlt4 := hO4.lt g4 rfl
    have hlt5 := hO5.lt g5 rfl
    have hs4 := hb4.size
    have hs5 := hb5.size
    have hd : (w3.drewN 1).heap.size = w3.heap.size := rfl
    have hK := K4.size
    have hsz : (w5.alloc (.cells #[.slice (some ⟨g4, 0, none⟩) ls.length c4, .pointer pv, .slice (some ⟨g5, 0, none⟩) ss.length c5] 97)).heap.size = w5.heap.size + 1 := by simp
    have FB : Hid (Bk w.heap.size (w5.alloc (.cells #[.slice (some ⟨g4, 0, none⟩) ls.length c4, .pointer pv, .slice (some ⟨g5, 0, none⟩) ss.length c5] 97)) w5.heap.size (.slice (some ⟨g4, 0, none⟩) ls.length c4) pv (.slice (some ⟨g5, 0, none⟩) ss.length c5) (fun x => w2.heap.size ≤ x ∧ x < w3.heap.size) ls o ss) := hide (by
      refine ⟨Blk.new w5 #[.slice (some ⟨g4, 0, none⟩) ls.length c4, .pointer pv, .slice (some ⟨g5, 0, none⟩) ss.length c5] 97 w5.heap.size rfl, by omega, own_downS ((hO4.below hb5).below BB) (by omega), (hO5.below BB).down (by omega), ((((unhide HMV).blw (unhide HD3)).blw hb4).blw hb5).blw BB, ?_, ?_, ?_, ?_⟩
      · intro x hx
        simp only [Value.ownBlock, hsz]
        refine ⟨by omega, by omega, by omega, ?_, ?_⟩ <;> (intro hq; simp at hq; omega)
      · simp [Value.ownBlock]; omega
      · simp [Value.ownBlock]; omega
      · intro x hx
        simp [Value.ownBlock] at hx ⊢
        omega)
    clear BB hlt4 hlt5 hs4 hs5 hK hsz hb4 hb5 hO4 hO5 K4 x40 x45 hX4
    go_wp2_with fail
    go_ret2
    exact ⟨_, by rw [h3]; rfl, unhide K5, fun _ => ⟨_, _, _, _, _, _, _, o, rfl, ho, unhide FB⟩⟩
end Go.Proofs.YtinpoaghedhknaaDoor.Sha
