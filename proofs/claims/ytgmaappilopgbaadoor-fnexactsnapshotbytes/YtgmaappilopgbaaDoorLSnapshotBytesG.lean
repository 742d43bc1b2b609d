/- For every ledger that can be read, laws.FnExactSnapshotBytes returns true, the ledger reads as it did, and so do the two tables of words, which the card ties to the program's text. Condition: the listed tables start as the program's text lays them. -/
import Derived.Test.YtgmaappilopgbaaDoorGub
import Derived.Test.YtgmaappilopgbaaDoorGuc
import Derived.Test.YtgmaappilopgbaaDoorLawG
import Derived.Test.YtgmaappilopgbaaDoorCards
import Derived.Test.YtgmaappilopgbaaDoorTie
namespace Go.Proofs.YtgmaappilopgbaaDoor.fnExactSnapshotBytes
open Go.ChangeShapes Go.WideShapes Go.ChangeAt Go.RowKit Sha
open Go.ChangeMaps (open_string shut_string)
set_option linter.unusedVariables false

/-- What is carried on: all that was there, the argument, its box. -/
structure Kw (w : World) (ls : List ByteArray) (ks : List Br) (ss : List Se) (la : Option Addr) (lc : Nat) (ka : Option Addr) (kc : Nat) (sa : Option Addr) (sc : Nat) (k v : ByteArray) (at_ : Int) (wx : World) : Prop where
  b : Below w.heap.size w wx
  r : LedR wx (.slice la ls.length lc) (.slice ka ks.length kc) (.slice sa ss.length sc) ls ks ss
  x : Blk wx w.heap.size [.slice la ls.length lc, .string k, .string v, .int .i64 at_, .slice ka ks.length kc, .slice sa ss.length sc]
theorem Kw.below {w : World} {ls : List ByteArray} {ks : List Br} {ss : List Se} {la : Option Addr} {lc : Nat} {ka : Option Addr} {kc : Nat} {sa : Option Addr} {sc : Nat} {k v : ByteArray} {at_ : Int} {wx wy : World} (h : Kw w ls ks ss la lc ka kc sa sc k v at_ wx) (hb : Below wx.heap.size wx wy) : Kw w ls ks ss la lc ka kc sa sc k v at_ wy :=
  ⟨h.b.trans (hb.mono h.b.size), h.r.below hb, h.x.below hb⟩
/-- Only blocks that came later were written. -/
theorem Kw.touch {w : World} {ls : List ByteArray} {ks : List Br} {ss : List Se} {la : Option Addr} {lc : Nat} {ka : Option Addr} {kc : Nat} {sa : Option Addr} {sc : Nat} {k v : ByteArray} {at_ : Int} {wx wy : World} {T : Nat → Prop} (h : Kw w ls ks ss la lc ka kc sa sc k v at_ wx) (h0 : LedR w (.slice la ls.length lc) (.slice ka ks.length kc) (.slice sa ss.length sc) ls ks ss) (ht : Touch T wx wy) (hT : ∀ q, T q → w.heap.size < q) : Kw w ls ks ss la lc ka kc sa sc k v at_ wy := by
  have hb : Below w.heap.size w wy := h.b.trans (ht.below h.b.size (fun q hq e => by have := hT q e; omega))
  exact ⟨hb, h0.below hb, h.x.kept ht (fun e => by have := hT _ e; omega)⟩
theorem snap_len (ls : List ByteArray) (b : Br) (ss : List Se) : (snOut ls b ss).1.length ≤ 1048576 := by
  rcases Bool.eq_false_or_eq_true (ledB ls b ss) with hl | hl
  · obtain ⟨h50, hall, hmb, hses⟩ := ledB_facts2 hl
    obtain ⟨o, ho⟩ : ∃ o, mapV b = some o := by
      rw [mapB_V] at hmb
      exact Option.isSome_iff_exists.1 hmb
    rw [snOut_yes hl ho]
    have h1 := lvsL_len hall
    have h2 := kvsL_len (lvsO o) (lvsO_ok o (mapV_br ho).2)
    have h3 := sep40 ho
    rw [lvsO_len] at h2
    obtain ⟨h8, hst⟩ := sesB_all hses
    have h4 := sesT_len hst ss.length (Nat.le_refl _)
    rw [List.take_length] at h4
    simp only [snapL, List.length_append, encN_len, h1]
    omega
  · rw [snOut_no hl]; simp

set_option maxRecDepth 100000 in
set_option maxHeartbeats 80000000 in
theorem walk (lv : Value) (k v : ByteArray) (at_ : Int) (kv sv : Value) (ls : List ByteArray) (ks : List Br) (ss : List Se) (w : World) (hR : LedR w lv kv sv ls ks ss) (hk : k.size ≤ maxLen) (hv : v.size ≤ maxLen) (z1 : ∀ i, i < ls.length → (ls.getD i ByteArray.empty).size ≤ maxLen) (z3 : ∀ i, i < ss.length → (ss.getD i default).vl.size ≤ maxLen) (hf : First w) (ht : Table w) :
    Calls Tryd.prog 6 #[.agg #[lv, .string k, .string v, .int .i64 at_, kv, sv]] w fun e w' => e = .returned (.bool true) ∧ Below w.heap.size w w' := by
  have HT := hide (show Tab w from ⟨hf, ht⟩)
  obtain ⟨la, lc, ka, kc, sa, sc, rfl, rfl, rfl, _, _, _⟩ := hR.shape
  have HR := hide hR
  have HZ := hide (And.intro hk (And.intro hv (And.intro z1 z3)))
  have BB := (Below.refl w.heap.size w).alloc (Nat.le_refl _) (.cells #[.slice la ls.length lc, .string k, .string v, .int .i64 at_, .slice ka ks.length kc, .slice sa ss.length sc] 38)
  have H0 : Hid (Kw w ls ks ss la lc ka kc sa sc k v at_ (w.alloc (.cells #[.slice la ls.length lc, .string k, .string v, .int .i64 at_, .slice ka ks.length kc, .slice sa ss.length sc] 38))) := hide ⟨BB, hR.below BB, Blk.new w #[.slice la ls.length lc, .string k, .string v, .int .i64 at_, .slice ka ks.length kc, .slice sa ss.length sc] 38 w.heap.size rfl⟩
  have hwl := Br.wt_lo (.mk k v at_ ks)
  have HC := hide (ledR_cases 1048576 (by omega) ls (Br.mk k v at_ ks).wt ss hwl)
  have HSU := hide (ledR_sum 1048576 ls (Br.mk k v at_ ks).wt ss)
  have HW := hide (Br.wt_eq (.mk k v at_ ks))
  have HCN := hide (cntL_wt ks)
  have HXL := hide (snap_len ls (.mk k v at_ ks) ss)
  clear hf ht hR hk hv hwl z1 z3 BB
  go_enter Tryd.func6, Tryd.ntmps6
  go_wp2_with fail
  generalize w.alloc (.cells #[.slice la ls.length lc, .string k, .string v, .int .i64 at_, .slice ka ks.length kc, .slice sa ss.length sc] 38) = w0 at *
  refine (szLedger_any ls k v at_ ks ss la lc ka kc sa sc 1048576 w0 (unhide H0).r (by omega) (by omega) (unhide HZ).2.2.1 (unhide HZ).1 (unhide HZ).2.1 (unhide HZ).2.2.2).mono ?_
  rintro e w1 ⟨rfl, hb1⟩
  have H1 := hide ((unhide H0).below hb1)
  clear hb1 H0
  generalize ledR 1048576 ls (Br.mk k v at_ ks).wt ss = r at *
  rcases unhide HC with hr | ⟨hr, _, hrs⟩
  · subst hr
    go_wp2_with fail
    go_ret
    exact ⟨rfl, (unhide H1).b⟩
  have HSM := hide hrs
  have HWK : Hid (wtL ks ≤ 1048576 ∧ cntL ks ≤ 1048576 ∧ 1 + ls.length + 3 * cntL ks ≤ 4194304) := hide (by
    have h1 := unhide HSU hr
    have h2 := unhide HW
    have h3 := unhide HCN
    simp only [Br.key, Br.val, Br.kids] at h2
    omega)
  have hr2 : ¬ r < 0 := by omega
  have HTO := hide (fun wx (hx : Kw w ls ks ss la lc ka kc sa sc k v at_ wx) => toLedger_any ls k v at_ ks ss la lc ka kc sa sc wx hx.r (unhide HSM).n1 (unhide HWK).1 (unhide HSM).n3)
  clear hr hrs HC HSU HW HCN
  have x10 := (unhide H1).x.cell 0 rfl
  have x11 := (unhide H1).x.cell 1 rfl
  have x12 := (unhide H1).x.cell 2 rfl
  have x13 := (unhide H1).x.cell 3 rfl
  have x14 := (unhide H1).x.cell 4 rfl
  have x15 := (unhide H1).x.cell 5 rfl
  go_wp2_with fail
  clear x10 x11 x12 x13 x14 x15
  refine (unhide HTO w1 (unhide H1)).mono ?_
  rintro e w2 ⟨p2, q2, r2, rfl, hO2, hb2⟩
  have H2 := hide ((unhide H1).below hb2)
  have V2 := hide hO2
  clear hb2 hO2 H1
  go_wp2_with fail
  refine (specSnapshotBytes_any ls k v at_ ks ss p2 _ _ _ _ _ w2 (SA.own (unhide V2).1) (unhide V2).led (unhide HSM).t1 (unhide HZ).1 (unhide HZ).2.1 (unhide HSM).t3).mono ?_
  rintro e w3 ⟨u0, rfl, hO3, hb3⟩
  have H3 := hide ((unhide H2).below hb3)
  have O3 := hide hO3
  have HO9 := hide (show ∀ q, u0.ownBlock = some q → q < w3.heap.size from fun q hq => (hO3.lt q hq).2)
  clear hb3 hO3 V2 H2
  have x30 := (unhide H3).x.cell 0 rfl
  have x31 := (unhide H3).x.cell 1 rfl
  have x32 := (unhide H3).x.cell 2 rfl
  have x33 := (unhide H3).x.cell 3 rfl
  have x34 := (unhide H3).x.cell 4 rfl
  have x35 := (unhide H3).x.cell 5 rfl
  go_wp2_with fail
  clear x30 x31 x32 x33 x34 x35
  refine (unhide HTO w3 (unhide H3)).mono ?_
  rintro e w4 ⟨p4, q4, r4, rfl, hO4, hb4⟩
  have BB := (Below.refl w4.heap.size w4).alloc (Nat.le_refl _) (.cells #[.slice (some ⟨p4, 0, none⟩) ls.length ls.length, .string k, .string v, .int .i64 at_, .slice (some ⟨q4, 0, none⟩) ks.length ks.length, .slice (some ⟨r4, 0, none⟩) ss.length ss.length] 43)
  have H4 := hide (((unhide H3).below hb4).below BB)
  have U4 := hide (hO4.up.below BB)
  have O4 := hide (((unhide O3).below hb4).below BB)
  have Y4 := hide (Blk.new w4 #[.slice (some ⟨p4, 0, none⟩) ls.length ls.length, .string k, .string v, .int .i64 at_, .slice (some ⟨q4, 0, none⟩) ks.length ks.length, .slice (some ⟨r4, 0, none⟩) ss.length ss.length] 43 w4.heap.size rfl)
  have hw34 := hb4.size
  have L4 := hide (unhide U4)
  have S4 := hide (show SA (w4.alloc (.cells #[.slice (some ⟨p4, 0, none⟩) ls.length ls.length, .string k, .string v, .int .i64 at_, .slice (some ⟨q4, 0, none⟩) ks.length ks.length, .slice (some ⟨r4, 0, none⟩) ss.length ss.length] 43)) p4 0 ls.length ls from SA.own (hO4.1.below BB))
  have hs4 : w4.heap.size < (w4.alloc (.cells #[.slice (some ⟨p4, 0, none⟩) ls.length ls.length, .string k, .string v, .int .i64 at_, .slice (some ⟨q4, 0, none⟩) ks.length ks.length, .slice (some ⟨r4, 0, none⟩) ss.length ss.length] 43)).heap.size := by simp
  have HS4 := hide (And.intro hs4 (And.intro hw34 (Nat.lt_of_lt_of_le (unhide H3).x.1 (Nat.le_refl _))))
  clear hb4 hO4 BB H3 O3 hs4
  go_wp2_with fail
  generalize w4.alloc (.cells #[.slice (some ⟨p4, 0, none⟩) ls.length ls.length, .string k, .string v, .int .i64 at_, .slice (some ⟨q4, 0, none⟩) ks.length ks.length, .slice (some ⟨r4, 0, none⟩) ss.length ss.length] 43) = w4b at *
  generalize w4.heap.size = yb at *
  refine (implSnapshotBytes_any ls k v at_ ks ss p4 _ _ _ _ _ w4b (unhide S4) (unhide L4).led (unhide HSM).t1 (unhide HZ).1 (unhide HZ).2.1 (unhide HSM).t3 ((unhide HT).below (unhide H4).b)).mono ?_
  rintro e w5 ⟨u1, rfl, hO5, hb5⟩
  have H5 := hide ((unhide H4).below hb5)
  have U5 := hide ((unhide U4).below hb5)
  have O5 := hide ((unhide O4).below hb5)
  have P5 := hide hO5
  have Y5 := hide ((unhide Y4).below hb5)
  have HX5 := hide (unhide HXL)
  clear hb5 hO5 H4 U4 O4 Y4 L4 S4
  have HIM := hide (fun (p q r : Nat) (wx : World) (hx : Kw w ls ks ss la lc ka kc sa sc k v at_ wx) (B : Nat) (hO : LedO B wx (.slice (some ⟨p, 0, none⟩) ls.length ls.length) (.slice (some ⟨q, 0, none⟩) ks.length ks.length) (.slice (some ⟨r, 0, none⟩) ss.length ss.length) ls ks ss) => implSnapshotBytes_any ls k v at_ ks ss p _ _ _ _ _ wx (SA.own hO.1) hO.led (unhide HSM).t1 (unhide HZ).1 (unhide HZ).2.1 (unhide HSM).t3 ((unhide HT).below hx.b))
  generalize (snOut ls (.mk k v at_ ks) ss).1 = X at *
  generalize (snOut ls (.mk k v at_ ks) ss).2 = c at *
  have hcc : (c == c) = true := by simp
  go_wp2_with fail
  refine (eqByteS_any u1 u0 X w5 (unhide P5).bytes (unhide O5).bytes (unhide HX5)).mono ?_
  rintro e w6 ⟨rfl, n6, hn6⟩
  have hb6 : Below w5.heap.size w5 w6 := by rw [hn6]; exact below_drewN (Below.refl _ _) n6
  have H6 := hide ((unhide H5).below hb6)
  have U6 := hide ((unhide U5).below hb6)
  have O6 := hide ((unhide O5).below hb6)
  have P6 := hide ((unhide P5).below hb6)
  have Y6 := hide ((unhide Y5).below hb6)
  clear hb6 hn6 H5 U5 O5 P5 Y5
  have x60 := (unhide H6).x.cell 0 rfl
  have x61 := (unhide H6).x.cell 1 rfl
  have x62 := (unhide H6).x.cell 2 rfl
  have x63 := (unhide H6).x.cell 3 rfl
  have x64 := (unhide H6).x.cell 4 rfl
  have x65 := (unhide H6).x.cell 5 rfl
  have y60 := (unhide Y6).cell 0 rfl
  have y61 := (unhide Y6).cell 1 rfl
  have y62 := (unhide Y6).cell 2 rfl
  have y63 := (unhide Y6).cell 3 rfl
  have y64 := (unhide Y6).cell 4 rfl
  have y65 := (unhide Y6).cell 5 rfl
  have hzx := (unhide H6).x.1
  have hzy := (unhide Y6).1
  have H6d := hide ((unhide H6).below (below_drewN (Below.refl _ w6) 1))
  have U6d := hide ((unhide U6).below (below_drewN (Below.refl _ w6) 1))
  have D6 := hide (below_drewN (Below.refl w6.heap.size w6) 1)
  have HTW := hide (unhide HTO w6.drew (unhide H6d))
  go_wp2_with fail
  go_region_held3 (fun wx => wx.cell? ⟨yb, 0, none⟩ = some (.slice (some ⟨p4, 0, none⟩) ls.length ls.length) ∧ wx.cell? ⟨yb, 1, none⟩ = some (.string k) ∧ wx.cell? ⟨yb, 2, none⟩ = some (.string v) ∧ wx.cell? ⟨yb, 3, none⟩ = some (.int .i64 at_) ∧ wx.cell? ⟨yb, 4, none⟩ = some (.slice (some ⟨q4, 0, none⟩) ks.length ks.length) ∧ wx.cell? ⟨yb, 5, none⟩ = some (.slice (some ⟨r4, 0, none⟩) ss.length ss.length) ∧ wx.cell? ⟨w.heap.size, 0, none⟩ = some (.slice la ls.length lc) ∧ wx.cell? ⟨w.heap.size, 1, none⟩ = some (.string k) ∧ wx.cell? ⟨w.heap.size, 2, none⟩ = some (.string v) ∧ wx.cell? ⟨w.heap.size, 3, none⟩ = some (.int .i64 at_) ∧ wx.cell? ⟨w.heap.size, 4, none⟩ = some (.slice ka ks.length kc) ∧ wx.cell? ⟨w.heap.size, 5, none⟩ = some (.slice sa ss.length sc))
    (first | go_keep | exact ⟨(hb8.cell (p := ⟨yb, 0, none⟩) hq7).trans k70, (hb8.cell (p := ⟨yb, 1, none⟩) hq7).trans k71, (hb8.cell (p := ⟨yb, 2, none⟩) hq7).trans k72, (hb8.cell (p := ⟨yb, 3, none⟩) hq7).trans k73, (hb8.cell (p := ⟨yb, 4, none⟩) hq7).trans k74, (hb8.cell (p := ⟨yb, 5, none⟩) hq7).trans k75, (hb8.cell (p := ⟨w.heap.size, 0, none⟩) hp7).trans l70, (hb8.cell (p := ⟨w.heap.size, 1, none⟩) hp7).trans l71, (hb8.cell (p := ⟨w.heap.size, 2, none⟩) hp7).trans l72, (hb8.cell (p := ⟨w.heap.size, 3, none⟩) hp7).trans l73, (hb8.cell (p := ⟨w.heap.size, 4, none⟩) hp7).trans l74, (hb8.cell (p := ⟨w.heap.size, 5, none⟩) hp7).trans l75⟩ | exact ⟨k70, k71, k72, k73, k74, k75, l70, l71, l72, l73, l74, l75⟩)
    (first
      | (go_at_call 19; refine (eqLedger_any ls k v at_ ks ss _ _ _ _ _ _ _ _ _ _ _ _ w7 ((unhide U6d).below hb7).led hO7.led (unhide HSM).n1 (unhide HSM).n3).mono ?_; rintro e w8 ⟨rfl, hb8⟩)
      | (go_at_call 17; refine (unhide HTW).mono ?_; rintro e w7 ⟨p7, q7, r7, rfl, hO7, hb7⟩; have hq7 : yb < w7.heap.size := Nat.lt_of_lt_of_le hzy hb7.size; have hp7 : w.heap.size < w7.heap.size := Nat.lt_of_lt_of_le hzx hb7.size; have k70 := (hb7.cell (p := ⟨yb, 0, none⟩) hzy).trans y60; have k71 := (hb7.cell (p := ⟨yb, 1, none⟩) hzy).trans y61; have k72 := (hb7.cell (p := ⟨yb, 2, none⟩) hzy).trans y62; have k73 := (hb7.cell (p := ⟨yb, 3, none⟩) hzy).trans y63; have k74 := (hb7.cell (p := ⟨yb, 4, none⟩) hzy).trans y64; have k75 := (hb7.cell (p := ⟨yb, 5, none⟩) hzy).trans y65; have l70 := (hb7.cell (p := ⟨w.heap.size, 0, none⟩) hzx).trans x60; have l71 := (hb7.cell (p := ⟨w.heap.size, 1, none⟩) hzx).trans x61; have l72 := (hb7.cell (p := ⟨w.heap.size, 2, none⟩) hzx).trans x62; have l73 := (hb7.cell (p := ⟨w.heap.size, 3, none⟩) hzx).trans x63; have l74 := (hb7.cell (p := ⟨w.heap.size, 4, none⟩) hzx).trans x64; have l75 := (hb7.cell (p := ⟨w.heap.size, 5, none⟩) hzx).trans x65))
  all_goals
    rename_i hHeld
    clear hHeld
    have hbb : Below w6.heap.size w6 w8 := (unhide D6).trans ((hb7.trans (hb8.mono hb7.size)).mono (unhide D6).size)
    have H8 := hide ((unhide H6).below hbb)
    have U8 := hide ((unhide U6).below hbb)
    have O8 := hide ((unhide O6).below hbb)
    have P8 := hide ((unhide P6).below hbb)
    have Y8 := hide ((unhide Y6).below hbb)
    have hz8 := hbb.size
    clear hbb hb7 hb8 hO7 x60 x61 x62 x63 x64 x65 y60 y61 y62 y63 y64 y65 k70 k71 k72 k73 k74 k75 l70 l71 l72 l73 l74 l75 hq7 hp7 H6d U6d HTW D6 H6 U6 O6 P6 Y6
    have y80 := (unhide Y8).cell 0 rfl
    have y81 := (unhide Y8).cell 1 rfl
    have y82 := (unhide Y8).cell 2 rfl
    have y83 := (unhide Y8).cell 3 rfl
    have y84 := (unhide Y8).cell 4 rfl
    have y85 := (unhide Y8).cell 5 rfl
    have hY8 := (unhide Y8).1
    have hX8 := (unhide H8).x.1
    go_wp2_with fail
    clear y80 y81 y82 y83 y84 y85
    refine (markLedger_any ls k v at_ ks ss _ _ _ _ _ _ _ _ w8 (unhide U8) (by omega) (unhide HSM).n1 (unhide HWK).2.1 (unhide HSM).n3 (unhide HWK).2.2).mono ?_
    rintro e w9 ⟨kc9, rfl, hT9⟩
    have hO9w := unhide HO9
    have H9 := hide ((unhide H8).touch (unhide HR) hT9 (fun q hq => by have := (unhide HS4).2.2; omega))
    have O9 := hide ((unhide O8).kept hT9 (fun q hq e => by have h1 := hO9w q hq; omega))
    have P9 := hide ((unhide P8).kept hT9 (fun q hq e => by have h1 := ((unhide P8).lt q hq).1; have := (unhide HS4).1; omega))
    clear hT9 H8 U8 O8 P8 Y8
    have hk9 : ¬ (kc9 : Int) < 0 := by omega
    go_wp2_with fail
    refine (eqByteS_any u1 u0 X w9 (unhide P9).bytes (unhide O9).bytes (unhide HX5)).mono ?_
    rintro e w10 ⟨rfl, n10, hn10⟩
    have hb10 : Below w9.heap.size w9 w10 := by rw [hn10]; exact below_drewN (Below.refl _ _) n10
    have H10 := hide ((unhide H9).below hb10)
    have O10 := hide ((unhide O9).below hb10)
    have P10 := hide ((unhide P9).below hb10)
    clear hb10 hn10 H9 O9 P9
    go_wp2_with fail
    refine (markByteS_any _ u1 X w10 (unhide P10) (unhide HX5)).mono ?_
    rintro e w11 ⟨rfl, hP11, hT11⟩
    have hPlt := (unhide P10).lt
    have H11 := hide ((unhide H10).touch (unhide HR) hT11 (fun q hq => by have := (hPlt q hq).1; have := (unhide HS4).1; have := (unhide HS4).2.1; have := (unhide HS4).2.2; omega))
    have O11 := hide ((unhide O10).kept hT11 (fun q hq e => by have h1 := hO9w q hq; have := (hPlt q e).1; have := (unhide HS4).1; have := (unhide HS4).2.1; omega))
    have P11 := hide hP11
    clear hP11 hT11 hPlt H10 O10 P10
    go_wp2_with fail
    refine (heldByteS_any _ u1 X.length w11 (unhide P11) (unhide HX5)).mono ?_
    rintro e w12 ⟨rfl, hw12⟩
    subst hw12
    have hq9 : ¬ (1 : Int) + (X.length : Int) < 0 := by omega
    have hqq : ((1 : Int) + (X.length : Int) == 1 + (X.length : Int)) = true := by simp
    have x110 := (unhide H11).x.cell 0 rfl
    have x111 := (unhide H11).x.cell 1 rfl
    have x112 := (unhide H11).x.cell 2 rfl
    have x113 := (unhide H11).x.cell 3 rfl
    have x114 := (unhide H11).x.cell 4 rfl
    have x115 := (unhide H11).x.cell 5 rfl
    go_wp2_with fail
    clear x110 x111 x112 x113 x114 x115
    refine (unhide HTO w12 (unhide H11)).mono ?_
    rintro e w13 ⟨p13, q13, r13, rfl, hO13, hb13⟩
    have H13 := hide ((unhide H11).below hb13)
    have O13 := hide ((unhide O11).below hb13)
    have P13 := hide ((unhide P11).below hb13)
    have V13 := hide hO13
    clear hb13 hO13 H11 O11 P11
    go_wp2_with fail
    refine (unhide HIM p13 q13 r13 w13 (unhide H13) _ (unhide V13)).mono ?_
    rintro e w14 ⟨u2, rfl, hO14, hb14⟩
    have H14 := hide ((unhide H13).below hb14)
    have O14 := hide ((unhide O13).below hb14)
    have P14 := hide ((unhide P13).below hb14)
    have Q14 := hide hO14
    clear hb14 hO14 H13 O13 P13 V13
    go_wp2_with fail
    refine (eqByteS_any u2 u0 X w14 (unhide Q14).bytes (unhide O14).bytes (unhide HX5)).mono ?_
    rintro e w15 ⟨rfl, n15, hn15⟩
    have hb15 : Below w14.heap.size w14 w15 := by rw [hn15]; exact below_drewN (Below.refl _ _) n15
    have H15 := hide ((unhide H14).below hb15)
    have P15 := hide ((unhide P14).below hb15)
    clear hb15 hn15 H14 O14 P14 Q14
    go_wp2_with fail
    refine (heldByteS_any _ u1 X.length w15 (unhide P15) (unhide HX5)).mono ?_
    rintro e w16 ⟨rfl, hw16⟩
    subst hw16
    go_wp2_with fail
    go_ret
    exact ⟨rfl, (unhide H15).b⟩

theorem vars_of_laid {W : World} (h : laidMetH Tryd.prog Rows.fnExactSnapshotBytesRow.laid W) :
    W.var? Tryd.prog "loop.example/g00220/impl.firstWords" = some firstCells ∧ W.var? Tryd.prog "loop.example/g00220/impl.roundWords" = some roundCells := by
  rw [MakeChecks.laidMetH_plain _ _ _ (by kernel_rfl)] at h
  obtain ⟨ps, ⟨g0, t0, cs0, f0, p0, q0, hg0, ht0, hv0, hd0, ⟨g1, t1, cs1, f1, p1, q1, hg1, ht1, hv1, hd1, _, _⟩, _⟩, _, _⟩ := h
  obtain rfl := Option.some.inj (gFirst.symm.trans hg0)
  obtain rfl := Option.some.inj (gRound.symm.trans hg1)
  obtain rfl := Option.some.inj (gFirstType.symm.trans ht0)
  obtain rfl := Option.some.inj (gRoundType.symm.trans ht1)
  have e0 := Lib.cells_of_tab (k := .u32) (cs := cs0.toList) (zs := iL.map fun (n : Nat) => (n : Int)) Tryd.underlying137 Tryd.underlying136 cellsE cellsA hd0
  have e1 := Lib.cells_of_tab (k := .u32) (cs := cs1.toList) (zs := kL.map fun (n : Nat) => (n : Int)) Tryd.underlying141 Tryd.underlying136 cellsE cellsB hd1
  have a0 : cs0 = firstCells := by
    have : cs0.toList = firstCells.toList := e0.trans (by kernel_rfl)
    exact Array.toList_inj.1 this
  have a1 : cs1 = roundCells := by
    have : cs1.toList = roundCells.toList := e1.trans (by kernel_rfl)
    exact Array.toList_inj.1 this
  exact ⟨by rw [hv0, a0], by rw [hv1, a1]⟩
theorem door_met (os : Os) (args : Array Value) : laidMetH Tryd.prog Rows.fnExactSnapshotBytesRow.laid ((World.doorLaid Tryd.prog 19 os).forCall (fun _ _ => 0) ⟨#[], args, []⟩).memory :=
  laidMetH_of_parts3 (fuel := 8) (laidMet_of_run' 8 (by kernel_rfl) (by kernel_rfl)) (by kernel_rfl) (by kernel_rfl)
set_option maxRecDepth 100000 in
theorem lifted (os : Os) (started : os.Started) (H : Type) (enc : TypeId × Value → H) :
    ReturnsInHanded {} Tryd.checked os 6 .any (fun w args => (Rows.fnExactSnapshotBytesSpec.pre enc Tryd.prog Tryd.f6 [] false w args ∧ laidMetH Tryd.prog Rows.fnExactSnapshotBytesRow.laid w) ∧ sizedMet enc Tryd.prog Tryd.f6 (OpenSpec.ofChange Rows.fnExactSnapshotBytesSpec) false w args)
      (Rows.fnExactSnapshotBytesSpec.post enc Tryd.prog Tryd.f6 false true false false) := by
  refine returnsInHanded_of_change_and (C := Tryd.checked) (X := fun w _ => laidMetH Tryd.prog Rows.fnExactSnapshotBytesRow.laid w) (fun _ _ _ hh h => h.of_heap hh) own started (by kernel_rfl) Tryd.func6
    (ChangeSpec.witness_shaped (enc := enc) (C := Tryd.checked) (os := os) (X := fun w _ => laidMetH Tryd.prog Rows.fnExactSnapshotBytesRow.laid w) false (World.doorLaid Tryd.prog 19 os) #[.agg #[.slice none 0 0, .string ByteArray.empty, .string ByteArray.empty, .int .i64 0, .slice none 0 0, .slice none 0 0]] 8 rfl (World.shaped_of_RefB (by kernel_rfl) (by kernel_rfl)) (by kernel_rfl) (by kernel_rfl) (by kernel_rfl) (door_met os _)) ?_
  intro W base args ds gs before hval0 hW _ _ hL _
  have hval : ∀ (j : Nat) t v, Tryd.f6.params[j]? = some t → args[j]? = some v → Value.okWide Tryd.prog W .any base t v := hval0
  have hW' := hW
  obtain ⟨p, q, hA0, hV0, rfl, hfz, hnd⟩ := hW
  have hA : DataW.TrodAll enc Tryd.prog W 0 (fun _ => true) true Tryd.f6.params.toList args.toList ds p := hA0
  have hV : DataW.TrodVars enc Tryd.prog W (fun _ => true) ["loop.example/g00220/impl.firstWords", "loop.example/g00220/impl.roundWords"] gs q := hV0
  rw [Tryd.params6] at hA hval
  obtain ⟨v0, vs0, d0, ds0, p0, q0, hargs, rfl, rfl, h0, r0⟩ := trodAll_cons hA
  obtain ⟨rfl, rfl, rfl⟩ := trodAll_nil r0
  obtain rfl : args = #[v0] := by cases args; simp_all
  have k0 := h0
  have lt0 : ∀ x ∈ p0, x.block < W.heap.size := by obtain ⟨m, hm⟩ := k0; exact DataW.trod_lt m _ _ _ hm
  obtain ⟨lv0, ky0, va0, at0, kv0, sv0, ls0, ks0, ss0, rfl, hf0, hz0, hy0, hl0, hs0⟩ := open_ledger (hval 0 38 v0 rfl rfl) h0
  obtain ⟨hv1, hv2⟩ := vars_of_laid hL
  clear hA0 hV0 hval0
  refine (walk lv0 ky0 va0 at0 kv0 sv0 ls0 ks0 ss0 W hf0 hz0 hy0 hl0 hs0 (first_of hv1) (table_of hv2)).mono fun e W' ⟨he, bel⟩ => ?_
  subst he
  obtain ⟨rfl, pv, hvs⟩ := vars_again (sp := fun b => decide (b < W.heap.size)) hv1 hv2 hV bel
  exact ⟨_, rfl, _, _, _, [], _, pv, hW', trodAll_mk1 (shut_bool Tryd.underlying4 _), (trodAll_cons_mk (Below.trod laidOut (by kernel_rfl) (of_decide_eq_true (by kernel_rfl)) k0 bel lt0) trodAll_mk0), hvs, bel.frame _, fun h => by cases h⟩

theorem said : Rows.FnExactSnapshotBytesSaid :=
  OpenClaim.holds_of_wide 6 Tryd.f6 rfl rfl rfl rfl rfl rfl rfl ⟨rfl, rfl, rfl, rfl, rfl⟩ rfl rfl rfl rfl rfl (by kernel_rfl) Tryd.func6 (by kernel_rfl)
    (of_decide_eq_true (by kernel_rfl)) (by unfold Func.isWrapper; first | (rw [if_pos (by decide +kernel)]; kernel_rfl) | (rw [if_neg (by decide +kernel)]; exact ⟨rfl, rfl⟩))
    (fun os started H enc _ => lifted os started H enc)

theorem plain (f : FuncId) (fn : Func) (hf : Tryd.pinned.checked.prog.funcNamed "loop.example/g00220/laws.FnExactSnapshotBytes" = some f) (hfn : Tryd.pinned.checked.prog.funcs[f]? = some fn) :
    false = Tryd.pinned.checked.prog.looks [] ∧ ∀ (j : Nat) t, fn.params[j]? = some t → Tryd.pinned.checked.prog.wantsStandIn t = false := by
  obtain rfl : f = 6 := Option.some.inj ((show Tryd.prog.funcNamed "loop.example/g00220/laws.FnExactSnapshotBytes" = some 6 by kernel_rfl).symm.trans hf) |>.symm
  obtain rfl : fn = Tryd.f6 := (Option.some.inj (Tryd.func6.symm.trans hfn)).symm
  refine ⟨by kernel_rfl, fun j t ht => ?_⟩
  rw [Tryd.params6] at ht
  obtain rfl : t = 38 := by
    have := Array.mem_of_getElem? ht
    simpa using this
  exact (show Tryd.prog.wantsStandIn 38 = false by kernel_rfl)
end Go.Proofs.YtgmaappilopgbaaDoor.fnExactSnapshotBytes
namespace Go.Proofs.YtgmaappilopgbaaDoor
theorem fnExactSnapshotBytes_card : Rows.FnExactSnapshotBytesCardSaid :=
  Claim7.holds_tied_plain_at .later [] _ _ _ _ fnExactSnapshotBytes.said (fun _ h => by cases h) (by kernel_rfl) (fun _ h => by cases h) fnExactSnapshotBytes_row_tie rfl ⟨rfl, rfl⟩ (by kernel_rfl) rfl fnExactSnapshotBytes.plain (by kernel_rfl)
#print axioms fnExactSnapshotBytes_card
end Go.Proofs.YtgmaappilopgbaaDoor
