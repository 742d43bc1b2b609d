/- Ledgers: what can be read, what is one's own; the laws' sz, to, eq; one that came in opened. -/
import Derived.Test.YtinpoaghedhknaaDoorSes
import Derived.Test.YtinpoaghedhknaaDoorBrE
import Derived.Test.YtinpoaghedhknaaDoorStrL
import Derived.Test.YtinpoaghedhknaaDoorLawG
namespace Go.Proofs.YtinpoaghedhknaaDoor.Sha
open Go.ChangeShapes Go.WideShapes Go.ChangeAt Go.RowKit Go.Deep
set_option linter.unusedVariables false

theorem own_downS {B B' : Nat} {w : World} {v : Value} {l : List ByteArray} (h : OwnS B w v l) (hB : B' ≤ B) : OwnS B' w v l := by
  obtain ⟨hl, hc⟩ := h
  refine ⟨hl, ?_⟩
  rcases hc with h0 | ⟨g, cap, cur, hv, hg, rest⟩
  · exact .inl h0
  · exact .inr ⟨g, cap, cur, hv, by omega, rest⟩
/-- The three lists of a ledger can be read. -/
structure LedR (w : World) (lv kv sv : Value) (ls : List ByteArray) (ks : List Br) (ss : List Se) : Prop where
  lv : Strs w lv ls
  kv : Brs (fun _ => True) w kv ks
  sv : Sess w sv ss
theorem LedR.below {w w' : World} {lv kv sv : Value} {ls : List ByteArray} {ks : List Br} {ss : List Se} (h : LedR w lv kv sv ls ks ss) (hb : Below w.heap.size w w') : LedR w' lv kv sv ls ks ss := ⟨h.lv.below hb, h.kv.blw hb, h.sv.below hb⟩
theorem LedR.shape {w : World} {lv kv sv : Value} {ls : List ByteArray} {ks : List Br} {ss : List Se} (h : LedR w lv kv sv ls ks ss) :
    ∃ la lc ka kc sa sc, lv = .slice la ls.length lc ∧ kv = .slice ka ks.length kc ∧ sv = .slice sa ss.length sc ∧ ls.length ≤ maxLen ∧ ks.length ≤ maxLen ∧ ss.length ≤ maxLen := by
  obtain ⟨la, lc, h1, h2, _⟩ := h.lv
  obtain ⟨ka, kc, h3, h4, h5⟩ := h.kv.shape
  obtain ⟨sa, sc, h6, h7, h8, _⟩ := h.sv
  exact ⟨la, lc, ka, kc, sa, sc, h1, h3, h6, h2, by omega, by omega⟩
/-- The three lists of a ledger are the call's own, from block B on, and lie apart. -/
def LedO (B : Nat) (w : World) (lv kv sv : Value) (ls : List ByteArray) (ks : List Br) (ss : List Se) : Prop :=
  OwnS B w lv ls ∧ OwnSe B w sv ss ∧ (∀ x, lv.ownBlock = some x → sv.ownBlock ≠ some x) ∧ ∃ S : Nat → Prop, BrO w S kv ks ∧ ∀ x, S x → B ≤ x ∧ x < w.heap.size ∧ lv.ownBlock ≠ some x ∧ sv.ownBlock ≠ some x
theorem LedO.led {B : Nat} {w : World} {lv kv sv : Value} {ls : List ByteArray} {ks : List Br} {ss : List Se} (h : LedO B w lv kv sv ls ks ss) : LedR w lv kv sv ls ks ss := by
  obtain ⟨h1, h2, _, S, h3, _⟩ := h
  exact ⟨h1.strs, h3.brs.mono (fun _ _ => trivial), h2.read⟩
theorem LedO.below {B : Nat} {w w' : World} {lv kv sv : Value} {ls : List ByteArray} {ks : List Br} {ss : List Se} (h : LedO B w lv kv sv ls ks ss) (hb : Below w.heap.size w w') : LedO B w' lv kv sv ls ks ss := by
  obtain ⟨h1, h2, h4, S, h3, h5⟩ := h
  exact ⟨h1.below hb, h2.below hb, h4, S, h3.blw hb, fun x hx => ⟨(h5 x hx).1, Nat.lt_of_lt_of_le (h5 x hx).2.1 hb.size, (h5 x hx).2.2⟩⟩
def ledR (L : Int) (ls : List ByteArray) (wt : Int) (ss : List Se) : Int := if sszR L ls < 0 then -1 else if szB (sszR L ls) wt < 0 then -1 else zszR (szB (sszR L ls) wt) ss
/-- The texts of a ledger are not too great. -/
structure LedS (ls : List ByteArray) (wt : Int) (ss : List Se) : Prop where
  n1 : ls.length ≤ 1048576
  t1 : ∀ i, (ls.getD i ByteArray.empty).size ≤ 1048576
  w2 : wt ≤ 1048576
  n3 : ss.length ≤ 1048576
  t3 : ∀ i, (ss.getD i default).vl.size ≤ 1048576
theorem ledR_cases (L : Int) (hL : L ≤ 1048576) (ls : List ByteArray) (wt : Int) (ss : List Se) (hw : 0 ≤ wt) : ledR L ls wt ss = -1 ∨ (0 ≤ ledR L ls wt ss ∧ ledR L ls wt ss ≤ L ∧ LedS ls wt ss) := by
  unfold ledR
  rcases sszR_cases L ls with h1 | ⟨h1, h1b⟩
  · left; rw [h1]; rfl
  · rw [if_neg (by omega)]
    rcases szB_cases (sszR L ls) wt hw with h2 | ⟨h2, h2b, h2c⟩
    · left; rw [h2]; rfl
    · rw [if_neg (by omega)]
      rcases zszR_cases (szB (sszR L ls) wt) ss with h3 | ⟨h3, h3b⟩
      · left; exact h3
      · have a1 := ssmall_of L hL ls h1
        have a3 := zsmall_of (szB (sszR L ls) wt) (by omega) ss h3
        exact .inr ⟨h3, by omega, ⟨a1.1, a1.2, by omega, a3.1, a3.2⟩⟩
set_option maxRecDepth 100000 in
set_option maxHeartbeats 1000000 in
theorem szLedger_any (ls : List ByteArray) (k v : ByteArray) (a : Int) (ks : List Br) (ss : List Se) (la : Option Addr) (lc : Nat) (ka : Option Addr) (kc : Nat) (sa : Option Addr) (sc : Nat) (L : Int) (w : World) (h : LedR w (.slice la ls.length lc) (.slice ka ks.length kc) (.slice sa ss.length sc) ls ks ss)
    (hL0 : 0 ≤ L) (hL1 : L ≤ 1048576) (z1 : ∀ i, i < ls.length → (ls.getD i ByteArray.empty).size ≤ maxLen) (zk : k.size ≤ maxLen) (zv : v.size ≤ maxLen) (z3 : ∀ i, i < ss.length → (ss.getD i default).vl.size ≤ maxLen) :
    Calls Tryd.prog 5 #[.agg #[.slice la ls.length lc, .string k, .string v, .int .i64 a, .slice ka ks.length kc, .slice sa ss.length sc], .int .i64 L] w fun e w' => e = .returned (.int .i64 (ledR L ls (Br.mk k v a ks).wt ss)) ∧ Below w.heap.size w w' := by
  have hw := Br.wt_lo (.mk k v a ks)
  have B0 := hide ((Below.refl w.heap.size w).alloc (Nat.le_refl _) (.cells #[.slice la ls.length lc, .string k, .string v, .int .i64 a, .slice ka ks.length kc, .slice sa ss.length sc] 28))
  have X0 := hide (Blk.new w #[.slice la ls.length lc, .string k, .string v, .int .i64 a, .slice ka ks.length kc, .slice sa ss.length sc] 28 w.heap.size rfl)
  have HS1 := hide (fun wx (hx : Below w.heap.size w wx) => szStringS_any L hL0 hL1 _ ls wx (h.lv.below hx) z1)
  have HS2 := hide (fun (x : Int) (hx0 : 0 ≤ x) (hx1 : x ≤ 1048576) wx (hx : Below w.heap.size w wx) => szBranch_of k v a ks ka ks.length kc x wx hx0 hx1 zk zv (fun L' wy h0 h1 hy => szBranchS_any h.kv L' wy h0 h1 (hx.trans (hy.mono hx.size))))
  have HS3 := hide (fun (x : Int) (hx0 : 0 ≤ x) (hx1 : x ≤ 1048576) wx (hx : Below w.heap.size w wx) => szSessionS_any x hx0 hx1 _ ss wx (h.sv.below hx) z3)
  have HC1 := hide (sszR_cases L ls)
  have HC2 := hide (fun x => szB_cases x (Br.mk k v a ks).wt hw)
  have HC3 := hide (fun x => zszR_cases x ss)
  have HE : Hid (ledR L ls (Br.mk k v a ks).wt ss = if sszR L ls < 0 then -1 else if szB (sszR L ls) (Br.mk k v a ks).wt < 0 then -1 else zszR (szB (sszR L ls) (Br.mk k v a ks).wt) ss) := rfl
  generalize ledR L ls (Br.mk k v a ks).wt ss = R at *
  generalize (Br.mk k v a ks).wt = wt at *
  generalize sszR L ls = r1 at *
  clear h z1 zk zv z3 hw
  go_enter Tryd.func5, Tryd.ntmps5
  go_wp2_with fail
  generalize w.alloc (.cells #[.slice la ls.length lc, .string k, .string v, .int .i64 a, .slice ka ks.length kc, .slice sa ss.length sc] 28) = w0 at *
  refine (unhide HS1 w0 (unhide B0)).mono ?_
  rintro e w1 ⟨rfl, hb1⟩
  have K1 := hide ((unhide B0).trans (hb1.mono (unhide B0).size))
  have X1 := (unhide X0).below hb1
  have x11 := X1.cell 1 rfl
  have x12 := X1.cell 2 rfl
  have x13 := X1.cell 3 rfl
  have x14 := X1.cell 4 rfl
  have HX1 := hide X1
  clear hb1 B0 X0 X1 HS1
  rcases unhide HC1 with hr | ⟨hr, hrl⟩
  · subst hr
    have E : Hid (R = -1) := hide (by rw [unhide HE]; rfl)
    go_wp2_with fail
    go_ret
    exact ⟨ret_int (unhide E).symm, unhide K1⟩
  have hr2 : ¬ r1 < 0 := by omega
  have HS2b := hide (unhide HS2 r1 hr (by omega))
  have HE2 : Hid (R = if szB r1 wt < 0 then -1 else zszR (szB r1 wt) ss) := hide (by rw [unhide HE, if_neg hr2])
  have HC2b := hide (unhide HC2 r1)
  generalize szB r1 wt = r2 at *
  clear HS2 HC1 HC2 HE hr
  go_wp2_with fail
  refine (unhide HS2b w1 (unhide K1)).mono ?_
  rintro e w2 ⟨rfl, hb2⟩
  have K2 := hide ((unhide K1).trans (hb2.mono (unhide K1).size))
  have X2 := (unhide HX1).below hb2
  have x25 := X2.cell 5 rfl
  clear hb2 K1 X2 HX1 HS2b x11 x12 x13 x14
  rcases unhide HC2b with hr | ⟨hr, hrl2, _⟩
  · subst hr
    have E : Hid (R = -1) := hide (by rw [unhide HE2]; rfl)
    go_wp2_with fail
    go_ret
    exact ⟨ret_int (unhide E).symm, unhide K2⟩
  have hr3 : ¬ r2 < 0 := by omega
  have HS3b := hide (unhide HS3 r2 hr (by omega))
  have HE3 : Hid (R = zszR r2 ss) := hide (by rw [unhide HE2, if_neg hr3])
  have HC3b := hide (unhide HC3 r2)
  generalize zszR r2 ss = r3 at *
  clear HS3 HC3 HC2b HE2 hr
  go_wp2_with fail
  refine (unhide HS3b w2 (unhide K2)).mono ?_
  rintro e w3 ⟨rfl, hb3⟩
  have K3 := hide ((unhide K2).trans (hb3.mono (unhide K2).size))
  clear hb3 K2 HS3b x25
  rcases unhide HC3b with hr | ⟨hr, _⟩
  · subst hr
    go_wp2_with fail
    go_ret
    exact ⟨ret_int (unhide HE3).symm, unhide K3⟩
  · have hr4 : ¬ r3 < 0 := by omega
    go_wp2_with fail
    go_ret
    exact ⟨ret_int (unhide HE3).symm, unhide K3⟩
def ToLR (ls : List ByteArray) (k v : ByteArray) (a : Int) (ks : List Br) (ss : List Se) (w : World) (e : Ending) (w' : World) : Prop :=
  ∃ g1 g2 g3, e = .returned (.agg #[.slice (some ⟨g1, 0, none⟩) ls.length ls.length, .string k, .string v, .int .i64 a, .slice (some ⟨g2, 0, none⟩) ks.length ks.length, .slice (some ⟨g3, 0, none⟩) ss.length ss.length]) ∧
    LedO w.heap.size w' (.slice (some ⟨g1, 0, none⟩) ls.length ls.length) (.slice (some ⟨g2, 0, none⟩) ks.length ks.length) (.slice (some ⟨g3, 0, none⟩) ss.length ss.length) ls ks ss ∧ Below w.heap.size w w'
set_option maxRecDepth 100000 in
set_option maxHeartbeats 2000000 in
theorem toLedger_any (ls : List ByteArray) (k v : ByteArray) (a : Int) (ks : List Br) (ss : List Se) (la : Option Addr) (lc : Nat) (ka : Option Addr) (kc : Nat) (sa : Option Addr) (sc : Nat) (w : World) (h : LedR w (.slice la ls.length lc) (.slice ka ks.length kc) (.slice sa ss.length sc) ls ks ss)
    (h1 : ls.length ≤ 1048576) (h2 : wtL ks ≤ 1048576) (h3 : ss.length ≤ 1048576) :
    Calls Tryd.prog 7 #[.agg #[.slice la ls.length lc, .string k, .string v, .int .i64 a, .slice ka ks.length kc, .slice sa ss.length sc]] w fun e w' => ToLR ls k v a ks ss w e w' := by
  have HT1 := hide (fun wx (hx : Below w.heap.size w wx) => toStringS_any _ ls wx (h.lv.below hx) h1)
  have HT2 := hide (fun wx (hx : Below w.heap.size w wx) => toBranch_of k v a ks ka ks.length kc wx (fun wy hy => toBranchS_any h.kv h2 wy (hx.trans (hy.mono hx.size))))
  have HT3 := hide (fun wx (hx : Below w.heap.size w wx) => toSessionS_any _ ss wx (h.sv.below hx) h3)
  have B3 := hide ((((Below.refl w.heap.size w).alloc (Nat.le_refl _) (.cells #[.slice la ls.length lc, .string k, .string v, .int .i64 a, .slice ka ks.length kc, .slice sa ss.length sc] 28)).alloc (by simp) (.cells #[.slice none 0 0, .string ⟨#[]⟩, .string ⟨#[]⟩, .int .i64 0, .slice none 0 0, .slice none 0 0] 37)).alloc (by simp; omega) (.cells #[.slice none 0 0, .string ⟨#[]⟩, .string ⟨#[]⟩, .int .i64 0, .slice none 0 0, .slice none 0 0] 37))
  have A3 := hide (((Blk.new w #[.slice la ls.length lc, .string k, .string v, .int .i64 a, .slice ka ks.length kc, .slice sa ss.length sc] 28 w.heap.size rfl).alloc (.cells #[.slice none 0 0, .string ⟨#[]⟩, .string ⟨#[]⟩, .int .i64 0, .slice none 0 0, .slice none 0 0] 37)).alloc (.cells #[.slice none 0 0, .string ⟨#[]⟩, .string ⟨#[]⟩, .int .i64 0, .slice none 0 0, .slice none 0 0] 37))
  have R3 := hide ((Blk.new (w.alloc (.cells #[.slice la ls.length lc, .string k, .string v, .int .i64 a, .slice ka ks.length kc, .slice sa ss.length sc] 28)) #[.slice none 0 0, .string ⟨#[]⟩, .string ⟨#[]⟩, .int .i64 0, .slice none 0 0, .slice none 0 0] 37 (w.heap.size + 1) (by simp)).alloc (.cells #[.slice none 0 0, .string ⟨#[]⟩, .string ⟨#[]⟩, .int .i64 0, .slice none 0 0, .slice none 0 0] 37))
  have O3 := hide (Blk.new ((w.alloc (.cells #[.slice la ls.length lc, .string k, .string v, .int .i64 a, .slice ka ks.length kc, .slice sa ss.length sc] 28)).alloc (.cells #[.slice none 0 0, .string ⟨#[]⟩, .string ⟨#[]⟩, .int .i64 0, .slice none 0 0, .slice none 0 0] 37)) #[.slice none 0 0, .string ⟨#[]⟩, .string ⟨#[]⟩, .int .i64 0, .slice none 0 0, .slice none 0 0] 37 (w.heap.size + 1 + 1) (by simp))
  have Z3 := hide (show (((w.alloc (.cells #[.slice la ls.length lc, .string k, .string v, .int .i64 a, .slice ka ks.length kc, .slice sa ss.length sc] 28)).alloc (.cells #[.slice none 0 0, .string ⟨#[]⟩, .string ⟨#[]⟩, .int .i64 0, .slice none 0 0, .slice none 0 0] 37)).alloc (.cells #[.slice none 0 0, .string ⟨#[]⟩, .string ⟨#[]⟩, .int .i64 0, .slice none 0 0, .slice none 0 0] 37)).heap.size = w.heap.size + 3 by simp)
  clear h h1 h2 h3
  go_enter Tryd.func7, Tryd.ntmps7
  go_wp2_with fail
  generalize ((w.alloc (.cells #[.slice la ls.length lc, .string k, .string v, .int .i64 a, .slice ka ks.length kc, .slice sa ss.length sc] 28)).alloc (.cells #[.slice none 0 0, .string ⟨#[]⟩, .string ⟨#[]⟩, .int .i64 0, .slice none 0 0, .slice none 0 0] 37)).alloc (.cells #[.slice none 0 0, .string ⟨#[]⟩, .string ⟨#[]⟩, .int .i64 0, .slice none 0 0, .slice none 0 0] 37) = w3 at *
  refine (unhide HT1 w3 (unhide B3)).mono ?_
  rintro e w4 ⟨rfl, hO4, hl4, hb4⟩
  generalize hg1 : w3.heap.size = g1 at *
  generalize hv1 : Value.slice (some ⟨g1, 0, none⟩) ls.length ls.length = v1 at *
  have A4 := ((unhide A3).below (hg1 ▸ hb4)).other (C := w.heap.size + 1 + 1) 0 v1 (by omega)
  have R4 := ((unhide R3).below (hg1 ▸ hb4)).other (C := w.heap.size + 1 + 1) 0 v1 (by omega)
  have O4 := (unhide O3).below (hg1 ▸ hb4)
  have o40 := O4.cell 0 rfl
  have fo40 := O4.fro 0
  have O5 := O4.set 0 v1 (by simp)
  have a51 := A4.cell 1 rfl
  have a52 := A4.cell 2 rfl
  have a53 := A4.cell 3 rfl
  have a54 := A4.cell 4 rfl
  have hz3 := unhide Z3
  have B5 := hide (((unhide B3).trans (hb4.mono (by omega))).setCell (p := ⟨w.heap.size + 1 + 1, 0, none⟩) (by simp; omega) v1)
  have L5 := hide (OwnS.kept (T := fun q => q = w.heap.size + 1 + 1) hO4 ((Touch.refl _ w4).setCell ⟨w.heap.size + 1 + 1, 0, none⟩ v1 (fun _ => rfl)) (fun q hq e => by subst hv1; simp [Value.ownBlock] at hq; omega))
  have G1 := hide (show w.heap.size + 3 = g1 ∧ g1 < w4.heap.size from ⟨by omega, hl4⟩)
  have HA5 := hide A4
  have HR5 := hide R4
  have HO5 := hide O5
  clear A4 R4 O4 O5 hO4 hb4 hl4 A3 R3 O3 B3 Z3 HT1 hz3 hg1
  subst hv1
  go_wp2_with fail
  have hsz5 : (w4.setCell ⟨w.heap.size + 1 + 1, 0, none⟩ (.slice (some ⟨g1, 0, none⟩) ls.length ls.length)).heap.size = w4.heap.size := by simp
  clear o40 fo40
  generalize w4.setCell ⟨w.heap.size + 1 + 1, 0, none⟩ (.slice (some ⟨g1, 0, none⟩) ls.length ls.length) = w5 at *
  refine (unhide HT2 w5 (unhide B5)).mono ?_
  rintro e w6 ⟨g2, rfl, hO6, hb6⟩
  generalize hv2 : Value.slice (some ⟨g2, 0, none⟩) ks.length ks.length = v2 at *
  clear a51 a52 a53 a54
  have hz6 := hb6.size
  have A6 := (((((unhide HA5).below hb6).other (C := w.heap.size + 1 + 1) 1 (.string k) (by omega)).other (C := w.heap.size + 1 + 1) 2 (.string v) (by omega)).other (C := w.heap.size + 1 + 1) 3 (.int .i64 a) (by omega)).other (C := w.heap.size + 1 + 1) 4 v2 (by omega)
  have R6 := (((((unhide HR5).below hb6).other (C := w.heap.size + 1 + 1) 1 (.string k) (by omega)).other (C := w.heap.size + 1 + 1) 2 (.string v) (by omega)).other (C := w.heap.size + 1 + 1) 3 (.int .i64 a) (by omega)).other (C := w.heap.size + 1 + 1) 4 v2 (by omega)
  have O6 := (unhide HO5).below hb6
  have o61 := O6.cell 1 rfl
  have o62 := O6.cell 2 rfl
  have o63 := O6.cell 3 rfl
  have o64 := O6.cell 4 rfl
  have fo61 := O6.fro 1
  have fo62 := O6.fro 2
  have fo63 := O6.fro 3
  have fo64 := O6.fro 4
  have O7 := (((O6.set 1 (.string k) (by simp)).set 2 (.string v) (by simp)).set 3 (.int .i64 a) (by simp)).set 4 v2 (by simp)
  have T7 : Touch (fun q => q = w.heap.size + 1 + 1) w6 ((((w6.setCell ⟨w.heap.size + 1 + 1, 1, none⟩ (.string k)).setCell ⟨w.heap.size + 1 + 1, 2, none⟩ (.string v)).setCell ⟨w.heap.size + 1 + 1, 3, none⟩ (.int .i64 a)).setCell ⟨w.heap.size + 1 + 1, 4, none⟩ v2) :=
    ((((Touch.refl (fun q => q = w.heap.size + 1 + 1) w6).setCell ⟨w.heap.size + 1 + 1, 1, none⟩ (.string k) (fun _ => rfl)).setCell ⟨w.heap.size + 1 + 1, 2, none⟩ (.string v) (fun _ => rfl)).setCell ⟨w.heap.size + 1 + 1, 3, none⟩ (.int .i64 a) (fun _ => rfl)).setCell ⟨w.heap.size + 1 + 1, 4, none⟩ v2 (fun _ => rfl)
  have hlt5 := (unhide G1)
  have hown1 := (unhide L5).lt
  have L7 := hide ((((unhide L5).below hb6).kept T7 (fun q hq e => by simp [Value.ownBlock] at hq; omega)))
  have M7 := hide (hO6.touch T7 (fun q hq e => by omega))
  have B7 := hide ((((((unhide B5).trans (hb6.mono (unhide B5).size)).setCell (p := ⟨w.heap.size + 1 + 1, 1, none⟩) (by simp; omega) (.string k)).setCell (p := ⟨w.heap.size + 1 + 1, 2, none⟩) (by simp; omega) (.string v)).setCell (p := ⟨w.heap.size + 1 + 1, 3, none⟩) (by simp; omega) (.int .i64 a)).setCell (p := ⟨w.heap.size + 1 + 1, 4, none⟩) (by simp; omega) v2)
  have a75 := A6.cell 5 rfl
  have HR7 := hide R6
  have HO7 := hide O7
  have S7 := hide (show w4.heap.size = w5.heap.size ∧ w5.heap.size ≤ w6.heap.size from ⟨hsz5.symm, hz6⟩)
  clear A6 R6 O6 O7 T7 hO6 hb6 B5 L5 HA5 HR5 HO5 HT2 hsz5 hz6 hlt5 hown1
  subst hv2
  go_wp2_with fail
  have hsz7 : ((((w6.setCell ⟨w.heap.size + 1 + 1, 1, none⟩ (.string k)).setCell ⟨w.heap.size + 1 + 1, 2, none⟩ (.string v)).setCell ⟨w.heap.size + 1 + 1, 3, none⟩ (.int .i64 a)).setCell ⟨w.heap.size + 1 + 1, 4, none⟩ (.slice (some ⟨g2, 0, none⟩) ks.length ks.length)).heap.size = w6.heap.size := by simp
  clear o61 o62 o63 o64 fo61 fo62 fo63 fo64
  generalize (((w6.setCell ⟨w.heap.size + 1 + 1, 1, none⟩ (.string k)).setCell ⟨w.heap.size + 1 + 1, 2, none⟩ (.string v)).setCell ⟨w.heap.size + 1 + 1, 3, none⟩ (.int .i64 a)).setCell ⟨w.heap.size + 1 + 1, 4, none⟩ (.slice (some ⟨g2, 0, none⟩) ks.length ks.length) = w7 at *
  refine (unhide HT3 w7 (unhide B7)).mono ?_
  rintro e w8 ⟨rfl, hO8, hl8, hb8⟩
  have hb8' : Below w7.heap.size w7 w8 := hb8
  generalize hg3 : w7.heap.size = g3 at *
  generalize hv3 : Value.slice (some ⟨g3, 0, none⟩) ss.length ss.length = v3 at *
  have R8 := ((unhide HR7).below (hg3 ▸ hb8)).other (C := w.heap.size + 1 + 1) 5 v3 (by omega)
  have O8 := (unhide HO7).below (hg3 ▸ hb8)
  have o85 := O8.cell 5 rfl
  have fo85 := O8.fro 5
  have O9 := O8.set 5 v3 (by simp)
  have o90 := O9.cell 0 rfl
  have o91 := O9.cell 1 rfl
  have o92 := O9.cell 2 rfl
  have o93 := O9.cell 3 rfl
  have o94 := O9.cell 4 rfl
  have o95 := O9.cell 5 rfl
  have r80 := R8.cell 0 rfl
  have r81 := R8.cell 1 rfl
  have r82 := R8.cell 2 rfl
  have r83 := R8.cell 3 rfl
  have r84 := R8.cell 4 rfl
  have r85 := R8.cell 5 rfl
  have fr0 := R8.fro 0
  have fr1 := R8.fro 1
  have fr2 := R8.fro 2
  have fr3 := R8.fro 3
  have fr4 := R8.fro 4
  have fr5 := R8.fro 5
  have R9 := (((((R8.set 0 (.slice (some ⟨g1, 0, none⟩) ls.length ls.length) (by simp)).set 1 (.string k) (by simp)).set 2 (.string v) (by simp)).set 3 (.int .i64 a) (by simp)).set 4 (.slice (some ⟨g2, 0, none⟩) ks.length ks.length) (by simp)).set 5 v3 (by simp)
  have T9 : Touch (fun q => q = w.heap.size + 1 ∨ q = w.heap.size + 1 + 1) w8 (((((((w8.setCell ⟨w.heap.size + 1 + 1, 5, none⟩ v3).setCell ⟨w.heap.size + 1, 0, none⟩ (.slice (some ⟨g1, 0, none⟩) ls.length ls.length)).setCell ⟨w.heap.size + 1, 1, none⟩ (.string k)).setCell ⟨w.heap.size + 1, 2, none⟩ (.string v)).setCell ⟨w.heap.size + 1, 3, none⟩ (.int .i64 a)).setCell ⟨w.heap.size + 1, 4, none⟩ (.slice (some ⟨g2, 0, none⟩) ks.length ks.length)).setCell ⟨w.heap.size + 1, 5, none⟩ v3) :=
    (((((((Touch.refl (fun q => q = w.heap.size + 1 ∨ q = w.heap.size + 1 + 1) w8).setCell ⟨w.heap.size + 1 + 1, 5, none⟩ v3 (fun _ => .inr rfl)).setCell ⟨w.heap.size + 1, 0, none⟩ (.slice (some ⟨g1, 0, none⟩) ls.length ls.length) (fun _ => .inl rfl)).setCell ⟨w.heap.size + 1, 1, none⟩ (.string k) (fun _ => .inl rfl)).setCell ⟨w.heap.size + 1, 2, none⟩ (.string v) (fun _ => .inl rfl)).setCell ⟨w.heap.size + 1, 3, none⟩ (.int .i64 a) (fun _ => .inl rfl)).setCell ⟨w.heap.size + 1, 4, none⟩ (.slice (some ⟨g2, 0, none⟩) ks.length ks.length) (fun _ => .inl rfl)).setCell ⟨w.heap.size + 1, 5, none⟩ v3 (fun _ => .inl rfl)
  have B9 := hide (((((((((unhide B7).trans (hb8.mono (by have := (unhide B7).size; omega))).setCell (p := ⟨w.heap.size + 1 + 1, 5, none⟩) (by simp; omega) v3).setCell (p := ⟨w.heap.size + 1, 0, none⟩) (by simp) (.slice (some ⟨g1, 0, none⟩) ls.length ls.length)).setCell (p := ⟨w.heap.size + 1, 1, none⟩) (by simp) (.string k)).setCell (p := ⟨w.heap.size + 1, 2, none⟩) (by simp) (.string v)).setCell (p := ⟨w.heap.size + 1, 3, none⟩) (by simp) (.int .i64 a)).setCell (p := ⟨w.heap.size + 1, 4, none⟩) (by simp) (.slice (some ⟨g2, 0, none⟩) ks.length ks.length)).setCell (p := ⟨w.heap.size + 1, 5, none⟩) (by simp) v3)
  have G := unhide G1
  have S := unhide S7
  have hz7 := (unhide B7).size
  have hT9s := T9.size
  have L9 := ((unhide L7).below (hg3 ▸ hb8)).kept T9 (fun q hq e => by simp [Value.ownBlock] at hq; omega)
  have M9 := ((unhide M7).blw (hg3 ▸ hb8)).touch T9 (fun q hq e => by omega)
  have N9 := hO8.kept T9 (fun q hq e => by subst hv3; simp [Value.ownBlock] at hq; omega)
  have F9 : Hid (LedO w.heap.size (((((((w8.setCell ⟨w.heap.size + 1 + 1, 5, none⟩ v3).setCell ⟨w.heap.size + 1, 0, none⟩ (.slice (some ⟨g1, 0, none⟩) ls.length ls.length)).setCell ⟨w.heap.size + 1, 1, none⟩ (.string k)).setCell ⟨w.heap.size + 1, 2, none⟩ (.string v)).setCell ⟨w.heap.size + 1, 3, none⟩ (.int .i64 a)).setCell ⟨w.heap.size + 1, 4, none⟩ (.slice (some ⟨g2, 0, none⟩) ks.length ks.length)).setCell ⟨w.heap.size + 1, 5, none⟩ v3) (.slice (some ⟨g1, 0, none⟩) ls.length ls.length) (.slice (some ⟨g2, 0, none⟩) ks.length ks.length) v3 ls ks ss) := hide (by
    refine ⟨own_downS L9 (by omega), N9.down (by omega), ?_, _, M9, ?_⟩
    · intro x hx
      subst hv3
      simp [Value.ownBlock] at hx ⊢
      omega
    · intro x hx
      have hx2 : x < w8.heap.size := by have := hb8.size; omega
      subst hv3
      simp [Value.ownBlock]
      refine ⟨by omega, ?_, by omega, by omega⟩
      simp at hT9s
      omega)
  have z0 := R9.cell 0 rfl
  have z1 := R9.cell 1 rfl
  have z2 := R9.cell 2 rfl
  have z3 := R9.cell 3 rfl
  have z4 := R9.cell 4 rfl
  have z5 := R9.cell 5 rfl
  clear R8 O8 O9 R9 T9 hO8 hb8 hb8' B7 L7 M7 HR7 HO7 HT3 L9 M9 N9 G S hz7 hT9s S7 hl8 hsz7 hg3
  subst hv3
  go_wp2_with fail
  refine bodyPost_ret (v := .agg #[(.slice (some ⟨g1, 0, none⟩) ls.length ls.length), .string k, .string v, .int .i64 a, (.slice (some ⟨g2, 0, none⟩) ks.length ks.length), (.slice (some ⟨g3, 0, none⟩) ss.length ss.length)]) (by simp [results, Tryd.results7, go_sem, z0, z1, z2, z3, z4, z5]) rfl ?_
  exact ⟨g1, g2, g3, rfl, unhide F9, unhide B9⟩
set_option maxRecDepth 100000 in
set_option maxHeartbeats 1000000 in
theorem eqLedger_any (ls : List ByteArray) (k v : ByteArray) (a : Int) (ks : List Br) (ss : List Se) (la : Option Addr) (lc : Nat) (ka : Option Addr) (kc : Nat) (sa : Option Addr) (sc : Nat) (la2 : Option Addr) (lc2 : Nat) (ka2 : Option Addr) (kc2 : Nat) (sa2 : Option Addr) (sc2 : Nat) (w : World)
    (h : LedR w (.slice la ls.length lc) (.slice ka ks.length kc) (.slice sa ss.length sc) ls ks ss) (h' : LedR w (.slice la2 ls.length lc2) (.slice ka2 ks.length kc2) (.slice sa2 ss.length sc2) ls ks ss) (h1 : ls.length ≤ 1048576) (h3 : ss.length ≤ 1048576) :
    Calls Tryd.prog 9 #[.agg #[.slice la ls.length lc, .string k, .string v, .int .i64 a, .slice ka ks.length kc, .slice sa ss.length sc], .agg #[.slice la2 ls.length lc2, .string k, .string v, .int .i64 a, .slice ka2 ks.length kc2, .slice sa2 ss.length sc2]] w fun e w' => e = .returned (.bool true) ∧ Below w.heap.size w w' := by
  have HE1 := hide (fun wx (hx : Below w.heap.size w wx) => eqStringS_any _ _ ls wx (h.lv.below hx) (h'.lv.below hx) h1)
  have HE2 := hide (fun wx (hx : Below w.heap.size w wx) => eqBranch_of k v a ka ka2 ks.length ks.length kc kc2 wx (fun wy hy => eqBranchS_any (h.kv.blw hx) _ _ wy hy (h'.kv.blw (hx.trans (hy.mono hx.size)))))
  have HE3 := hide (fun wx (hx : Below w.heap.size w wx) => eqSessionS_any _ _ ss wx (h.sv.below hx) (h'.sv.below hx) h3)
  have B0 := hide (((Below.refl w.heap.size w).alloc (Nat.le_refl _) (.cells #[.slice la ls.length lc, .string k, .string v, .int .i64 a, .slice ka ks.length kc, .slice sa ss.length sc] 37)).alloc (by simp) (.cells #[.slice la2 ls.length lc2, .string k, .string v, .int .i64 a, .slice ka2 ks.length kc2, .slice sa2 ss.length sc2] 37))
  have X0 := hide ((Blk.new w #[.slice la ls.length lc, .string k, .string v, .int .i64 a, .slice ka ks.length kc, .slice sa ss.length sc] 37 w.heap.size rfl).alloc (.cells #[.slice la2 ls.length lc2, .string k, .string v, .int .i64 a, .slice ka2 ks.length kc2, .slice sa2 ss.length sc2] 37))
  have Y0 := hide (Blk.new (w.alloc (.cells #[.slice la ls.length lc, .string k, .string v, .int .i64 a, .slice ka ks.length kc, .slice sa ss.length sc] 37)) #[.slice la2 ls.length lc2, .string k, .string v, .int .i64 a, .slice ka2 ks.length kc2, .slice sa2 ss.length sc2] 37 (w.heap.size + 1) (by simp))
  clear h h' h1 h3
  go_enter Tryd.func9, Tryd.ntmps9
  go_wp2_with fail
  generalize (w.alloc (.cells #[.slice la ls.length lc, .string k, .string v, .int .i64 a, .slice ka ks.length kc, .slice sa ss.length sc] 37)).alloc (.cells #[.slice la2 ls.length lc2, .string k, .string v, .int .i64 a, .slice ka2 ks.length kc2, .slice sa2 ss.length sc2] 37) = w0 at *
  refine (unhide HE1 w0 (unhide B0)).mono ?_
  rintro e w1 ⟨rfl, n1, hn1⟩
  have hb1 : Below w0.heap.size w0 w1 := by rw [hn1]; exact below_drewN (Below.refl _ _) n1
  clear hn1
  have K1 := hide ((unhide B0).trans (hb1.mono (unhide B0).size))
  have X1 := (unhide X0).below hb1
  have Y1 := (unhide Y0).below hb1
  have x1 := X1.cell 1 rfl
  have x2 := X1.cell 2 rfl
  have x3 := X1.cell 3 rfl
  have x4 := X1.cell 4 rfl
  have y1 := Y1.cell 1 rfl
  have y2 := Y1.cell 2 rfl
  have y3 := Y1.cell 3 rfl
  have y4 := Y1.cell 4 rfl
  have HX := hide X1
  have HY := hide Y1
  clear hb1 X1 Y1 B0 X0 Y0 HE1
  go_wp2_with fail
  refine (unhide HE2 w1 (unhide K1)).mono ?_
  rintro e w2 ⟨rfl, hb2⟩
  have K2 := hide ((unhide K1).trans (hb2.mono (unhide K1).size))
  have X2 := (unhide HX).below hb2
  have Y2 := (unhide HY).below hb2
  have x5 := X2.cell 5 rfl
  have y5 := Y2.cell 5 rfl
  clear hb2 X2 Y2 K1 HX HY x1 x2 x3 x4 y1 y2 y3 y4 HE2
  go_wp2_with fail
  refine (unhide HE3 w2 (unhide K2)).mono ?_
  rintro e w3 ⟨rfl, hb3⟩
  have K3 := hide ((unhide K2).trans (hb3.mono (unhide K2).size))
  clear hb3
  go_wp2_with fail
  go_ret
  exact ⟨rfl, unhide K3⟩
theorem array6s {c : Array Value} (h : c.size = 6) : ∃ a b d e f g, c = #[a, b, d, e, f, g] := by
  match c, h with
  | ⟨[a, b, d, e, f, g]⟩, _ => exact ⟨a, b, d, e, f, g, rfl⟩
set_option maxRecDepth 100000 in
/-- A list of texts within a struct that came in, opened. -/
theorem open_textsAt {H : Type} {enc : TypeId × Value → H} {W : World} {base : Nat} {sp : Nat → Bool} {held : Bool} {fuel : Nat} {c0 : Value} {x : DataW H × List MemPlace}
    (hf : DataW.trod enc Tryd.prog W base sp held fuel 22 [c0] = some x) :
    ∃ l : List ByteArray, Strs W c0 l ∧ ∀ i, i < l.length → (l.getD i ByteArray.empty).size ≤ maxLen := by
  obtain ⟨d, p⟩ := x
  rcases open_strings Tryd.underlying22 Tryd.underlying9 (by kernel_rfl) hf with ⟨hcs, _⟩ | ⟨x, len0, cap0, ss, hcs, _, hl, hm, hz, _, hcell, hsz⟩
  · simp only [List.cons.injEq, and_true] at hcs
    subst hcs
    exact ⟨[], ⟨none, 0, rfl, by unfold maxLen; simp, .inl rfl⟩, fun i hi => by simp at hi⟩
  · simp only [List.cons.injEq, and_true] at hcs
    subst hcs
    have hlz : len0 ≤ ss.length := by rw [hz]; split <;> omega
    have hlen : (ss.take len0).length = len0 := by rw [List.length_take]; omega
    have hget : ∀ i, i < len0 → (ss.take len0).getD i ByteArray.empty = ss.getD i ByteArray.empty := fun i hi => by
      simp [List.getD_eq_getElem?_getD, hi]
    refine ⟨ss.take len0, ⟨some x, cap0, by rw [hlen], by rw [hlen]; omega, ?_⟩, fun i hi => ?_⟩
    · by_cases h0 : len0 = 0
      · exact .inl (by rw [hlen]; exact h0)
      · obtain ⟨b, off, spot⟩ := x
        have hc := hcell 0 (by omega)
        have hspot : spot = none := by simpa [Addr.add] using World.cell?_spot hc
        subst hspot
        have hblk := World.block_lt_of_cell? W _ hc
        have e0 : ∀ i, (⟨b, off, none⟩ : Addr).add i = ⟨b, off + i, none⟩ := fun i => by unfold Addr.add; split <;> simp_all
        rw [e0] at hblk
        refine .inr ⟨b, off, rfl, hblk, fun i hi => ?_⟩
        rw [hlen] at hi
        rw [hget i hi, ← e0, hcell i (by omega)]
    · rw [hlen] at hi
      rw [hget i hi]
      have hi' : i < ss.length := by omega
      have hm' : ss.getD i ByteArray.empty ∈ ss := by
        rw [List.getD_eq_getElem?_getD, List.getElem?_eq_getElem hi']; exact List.getElem_mem hi'
      exact hsz _ hm'
set_option maxRecDepth 100000 in
theorem open_ledger {H : Type} {enc : TypeId × Value → H} {W : World} {base b0 : Nat} {r : Reach} {sp : Nat → Bool} {held : Bool} {v : Value} {d : DataW H} {p : List MemPlace}
    (hv : Value.okWide Tryd.prog W r b0 28 v) (h : DataW.Trod enc Tryd.prog W base sp held 28 v d p) :
    ∃ (lv : Value) (k va : ByteArray) (at_ : Int) (kv sv : Value) (ls : List ByteArray) (ks : List Br) (ss : List Se), v = .agg #[lv, .string k, .string va, .int .i64 at_, kv, sv] ∧ LedR W lv kv sv ls ks ss ∧ k.size ≤ maxLen ∧ va.size ≤ maxLen ∧ (∀ i, i < ls.length → (ls.getD i ByteArray.empty).size ≤ maxLen) ∧ (∀ i, i < ss.length → (ss.getD i default).vl.size ≤ maxLen) := by
  obtain ⟨cs, rfl, hsz⟩ := okWide_struct Tryd.underlying28 hv
  have hC : Tryd.prog.cellsOf 28 = 6 := by kernel_rfl
  obtain ⟨c0, c1, c2, c3, c4, c5, rfl⟩ := array6s (hsz.trans hC)
  obtain ⟨fuel, hf⟩ := h
  obtain ⟨xs, n, _, _, _, hlen, hfl⟩ := DataW.trod_struct Tryd.underlying28 hf
  have i3 : Tryd.prog.cellsOf 3 = 1 := by kernel_rfl
  have i9 : Tryd.prog.cellsOf 9 = 1 := by kernel_rfl
  have iT : Tryd.prog.cellsOf 22 = 1 := by kernel_rfl
  have iB : Tryd.prog.cellsOf 25 = 4 := by kernel_rfl
  have iS : Tryd.prog.cellsOf 23 = 1 := by kernel_rfl
  have iZ : Tryd.prog.cellsOf 26 = 1 := by kernel_rfl
  obtain ⟨y0, e0⟩ := get_some hlen (show 0 < 3 by omega)
  obtain ⟨y1, e1⟩ := get_some hlen (show 1 < 3 by omega)
  obtain ⟨y2, e2⟩ := get_some hlen (show 2 < 3 by omega)
  have g0 : DataW.trod enc Tryd.prog W base sp held n 22 [c0] = some y0 := by simpa [Value.cells, iT] using (hfl 0 _ rfl).trans e0
  have gB : DataW.trod enc Tryd.prog W base sp held n 25 [c1, c2, c3, c4] = some y1 := by simpa [Value.cells, iT, iB] using (hfl 1 _ rfl).trans e1
  have g5 : DataW.trod enc Tryd.prog W base sp held n 26 [c5] = some y2 := by simpa [Value.cells, iT, iB, iZ] using (hfl 2 _ rfl).trans e2
  obtain ⟨xs2, n2, _, _, _, hlen2, hfl2⟩ := DataW.trod_struct Tryd.underlying25 gB
  obtain ⟨z0, f0⟩ := get_some hlen2 (show 0 < 4 by omega)
  obtain ⟨z1, f1⟩ := get_some hlen2 (show 1 < 4 by omega)
  obtain ⟨z2, f2⟩ := get_some hlen2 (show 2 < 4 by omega)
  obtain ⟨z3, f3⟩ := get_some hlen2 (show 3 < 4 by omega)
  have h0 : DataW.trod enc Tryd.prog W base sp held n2 9 [c1] = some z0 := by simpa [Value.cells, i9] using (hfl2 0 _ rfl).trans f0
  have h1 : DataW.trod enc Tryd.prog W base sp held n2 9 [c2] = some z1 := by simpa [Value.cells, i9] using (hfl2 1 _ rfl).trans f1
  have h2 : DataW.trod enc Tryd.prog W base sp held n2 3 [c3] = some z2 := by simpa [Value.cells, i3] using (hfl2 2 _ rfl).trans f2
  have h3 : DataW.trod enc Tryd.prog W base sp held n2 23 [c4] = some z3 := by simpa [Value.cells, iS] using (hfl2 3 _ rfl).trans f3
  obtain ⟨a0, k0, _, q0⟩ := DataW.trod_string Tryd.underlying9 h0
  obtain ⟨a1, k1, _, q1⟩ := DataW.trod_string Tryd.underlying9 h1
  obtain ⟨a2, k2, _, q2⟩ := DataW.trod_int Tryd.underlying3 h2
  obtain ⟨ks, hks⟩ := open_branches n2 c4 z3 h3
  obtain ⟨ls, hls, hlz⟩ := open_textsAt g0
  obtain ⟨ss, hss, hsz2⟩ := open_sessions g5
  simp only [List.cons.injEq, and_true] at k0 k1 k2
  subst k0 k1 k2
  exact ⟨c0, a0, a1, a2, c4, c5, ls, ks, ss, rfl, ⟨hls, hks, hss⟩, q0, q1, hlz, hsz2⟩
end Go.Proofs.YtinpoaghedhknaaDoor.Sha
