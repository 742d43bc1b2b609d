/- For every ledger that can be read and every number, laws.FnExactProveGrowth returns true, the ledger reads as it did, and so do the two tables of words, which the card ties to the program's text. Condition: the listed tables start as the program's text lays them. (Written by py/lprv.py.) -/
import Derived.Test.YtkojmnlfpccbiaaDoorGuP
import Derived.Test.YtkojmnlfpccbiaaDoorGuQ
import Derived.Deep.Cut
import Derived.Test.YtkojmnlfpccbiaaDoorLawG
import Derived.Test.YtkojmnlfpccbiaaDoorCards
import Derived.Test.YtkojmnlfpccbiaaDoorTie
namespace Go.Proofs.YtkojmnlfpccbiaaDoor.fnExactProveGrowth
open Go.ChangeShapes Go.WideShapes Go.ChangeAt Go.RowKit Sha
open Go.ChangeMaps (open_string shut_string)
set_option linter.unusedVariables false
set_option linter.unusedSimpArgs false

/-- What is carried on: all that was there, the specification's answer, the ledger handed in and its box, the program's answer. -/
structure Qw (w : World) (s yb G : Nat) (L0 : List Value) (wv gv : Value) (p pg : List ByteArray) (wx : World) : Prop where
  b : Below w.heap.size w wx
  xl : Blk wx w.heap.size L0
  ow : OwnS s wx wv p
  og : OwnS G wx gv pg
  kw : ∀ q, wv.ownBlock = some q → q < yb
  s0 : w.heap.size < s
  s1 : s ≤ yb
  s2 : yb < G
theorem Qw.below {w : World} {s yb G : Nat} {L0 : List Value} {wv gv : Value} {p pg : List ByteArray} {wx wy : World} (h : Qw w s yb G L0 wv gv p pg wx) (hb : Below wx.heap.size wx wy) : Qw w s yb G L0 wv gv p pg wy :=
  ⟨h.b.trans (hb.mono h.b.size), h.xl.below hb, h.ow.below hb, h.og.below hb, h.kw, h.s0, h.s1, h.s2⟩
theorem Qw.markG {w : World} {s yb G : Nat} {L0 : List Value} {wv gv : Value} {p pg pg' : List ByteArray} {wx wy : World} (h : Qw w s yb G L0 wv gv p pg wx) (ho : OwnS G wy gv pg') (ht : Touch (fun k => gv.ownBlock = some k) wx wy) : Qw w s yb G L0 wv gv p pg' wy :=
  ⟨h.b.trans (ht.below h.b.size (fun k hk e => by have := (h.og.lt k e).1; have := h.s0; have := h.s1; have := h.s2; omega)), h.xl.kept ht (fun e => by have := (h.og.lt _ e).1; have := h.s0; have := h.s1; have := h.s2; omega), h.ow.kept ht (fun k hk e => by have := h.kw k hk; have := (h.og.lt k e).1; have := h.s2; omega), ho, h.kw, h.s0, h.s1, h.s2⟩
/-- Blocks between two bounds change, none of theirs. -/
theorem Qw.between {w : World} {s yb G B M : Nat} {L0 : List Value} {wv gv : Value} {p pg : List ByteArray} {wx wy : World} (h : Qw w s yb G L0 wv gv p pg wx) (ht : Touch (fun q => B ≤ q ∧ q < M) wx wy) (h1 : w.heap.size < B) (h2 : ∀ q, wv.ownBlock = some q → q < B) (h3 : M ≤ G) : Qw w s yb G L0 wv gv p pg wy :=
  ⟨h.b.trans (ht.below h.b.size (fun k hk e => by (try dsimp only at e); omega)), h.xl.kept ht (fun e => by (try dsimp only at e); omega), h.ow.kept ht (fun k hk e => by have := h2 k hk; (try dsimp only at e); omega), h.og.kept ht (fun k hk e => by have := (h.og.lt k hk).1; (try dsimp only at e); omega), h.kw, h.s0, h.s1, h.s2⟩

set_option maxRecDepth 100000 in
set_option maxHeartbeats 4000000 in
theorem walk (lv : Value) (k v : ByteArray) (at_ : Int) (kv sv : Value) (ls : List ByteArray) (ks : List Br) (ss : List Se) (q : Int) (w : World) (hR : LedR w lv kv sv ls ks ss) (hk : k.size ≤ maxLen) (hv : v.size ≤ maxLen) (z1 : ∀ i, i < ls.length → (ls.getD i ByteArray.empty).size ≤ maxLen) (z3 : ∀ i, i < ss.length → (ss.getD i default).vl.size ≤ maxLen) (hq : (Lit.int .i64 q).wf = true) (hf : First w) (ht : Table w) :
    Calls Tryd.prog 5 #[.agg #[lv, .string k, .string v, .int .i64 at_, kv, sv], .int .i64 q] w fun e w' => e = .returned (.bool true) ∧ Below w.heap.size w w' := by
  have HT := hide (show Tab w from ⟨hf, ht⟩)
  obtain ⟨la, lc, ka, kc, sa, sc, rfl, rfl, rfl, hm1, hm2, hm3⟩ := hR.shape
  have HZ := hide (And.intro hk hv)
  have K0 := hide ((Below.refl w.heap.size w).alloc (Nat.le_refl _) (.cells #[.slice la ls.length lc, .string k, .string v, .int .i64 at_, .slice ka ks.length kc, .slice sa ss.length sc] 28))
  have X0 := hide (Blk.new w #[.slice la ls.length lc, .string k, .string v, .int .i64 at_, .slice ka ks.length kc, .slice sa ss.length sc] 28 w.heap.size rfl)
  have HS := hide (fun wx (hx : Below w.heap.size w wx) => szLedger_any ls k v at_ ks ss la lc ka kc sa sc 1048576 wx (hR.below hx) (by omega) (by omega) z1 hk hv z3)
  have HW := hide (Br.wt_eq (.mk k v at_ ks))
  have hwl := Br.wt_lo (.mk k v at_ ks)
  have HC := hide (ledR_cases 1048576 (by omega) ls (Br.mk k v at_ ks).wt ss hwl)
  have HSUM := hide (fun h => ledR_sum 1048576 ls (Br.mk k v at_ ks).wt ss h)
  have HTO := hide (fun (hs : LedS ls (Br.mk k v at_ ks).wt ss) wx (hx : Below w.heap.size w wx) => toLedger_any ls k v at_ ks ss la lc ka kc sa sc wx (hR.below hx) hs.n1 (by have h2 := hs.w2; have := unhide HW; simp only [Br.key, Br.val, Br.kids] at this; omega) hs.n3)
  have HPL := hide (pgOut_len ls (.mk k v at_ ks) ss q)
  have HSP := hide (fun (hs : LedS ls (Br.mk k v at_ ks).wt ss) wx (p1 p2 p3 B : Nat) (hO : LedO B wx (.slice (some ⟨p1, 0, none⟩) ls.length ls.length) (.slice (some ⟨p2, 0, none⟩) ks.length ks.length) (.slice (some ⟨p3, 0, none⟩) ss.length ss.length) ls ks ss) => specProveGrowth_any ls k v at_ ks ss p1 ls.length (some ⟨p2, 0, none⟩) ks.length ⟨p3, 0, none⟩ ss.length q wx (SA.own hO.1) hO.led hs.t1 hk hv hs.t3)
  have HIM := hide (fun (hs : LedS ls (Br.mk k v at_ ks).wt ss) wx (p1 p2 p3 B : Nat) (hO : LedO B wx (.slice (some ⟨p1, 0, none⟩) ls.length ls.length) (.slice (some ⟨p2, 0, none⟩) ks.length ks.length) (.slice (some ⟨p3, 0, none⟩) ss.length ss.length) ls ks ss) (hx : Below w.heap.size w wx) => implProveGrowth_any ls k v at_ ks ss p1 ls.length (some ⟨p2, 0, none⟩) ks.length ⟨p3, 0, none⟩ ss.length q wx (SA.own hO.1) hO.led hs.t1 hk hv hs.t3 ((unhide HT).below hx))
  clear hf ht hR hk hv hwl hm1 hm2 hm3 z1 z3 hq
  generalize (pgOut ls (.mk k v at_ ks) ss q).1 = p at *
  generalize (pgOut ls (.mk k v at_ ks) ss q).2 = c at *
  generalize ledR 1048576 ls (Br.mk k v at_ ks).wt ss = r at *
  go_enter Tryd.func5, Tryd.ntmps5
  go_wp2_with fail
  generalize w.alloc (.cells #[.slice la ls.length lc, .string k, .string v, .int .i64 at_, .slice ka ks.length kc, .slice sa ss.length sc] 28) = w0 at *
  refine (unhide HS w0 (unhide K0)).mono ?_
  rintro e w1 ⟨rfl, hb⟩
  have K1 := hide ((unhide K0).trans (hb.mono (unhide K0).size))
  have X1 := hide ((unhide X0).below hb)
  have x0 := (unhide X1).cell 0 rfl
  have x1 := (unhide X1).cell 1 rfl
  have x2 := (unhide X1).cell 2 rfl
  have x3 := (unhide X1).cell 3 rfl
  have x4 := (unhide X1).cell 4 rfl
  have x5 := (unhide X1).cell 5 rfl
  clear hb K0 X0 HS
  rcases unhide HC with hr | ⟨hr, _, hrs⟩
  · subst hr
    go_wp2_with fail
    go_ret
    exact ⟨rfl, unhide K1⟩
  have HSM := hide hrs
  have HTT := hide (unhide HTO hrs)
  have HSPP := hide (unhide HSP hrs)
  have HIMM := hide (unhide HIM hrs)
  have HCX := hide (show cntL ks ≤ 1048576 ∧ 1 + ls.length + 3 * cntL ks ≤ 4194304 from by have h1 := cntL_wt ks; have h4 := unhide HSUM hr; have h5 := unhide HW; simp only [Br.key, Br.val, Br.kids] at h5; exact ⟨by omega, by omega⟩)
  have HPN := hide (show p.length ≤ 1048576 from Nat.le_trans (unhide HPL) (unhide HSM).n1)
  have hr2 : ¬ r < 0 := by omega
  clear HTO HSP HIM hr hrs HC HSUM HW
  go_wp2_with fail
  refine (unhide HTT w1 (unhide K1)).mono ?_
  rintro e w2 ⟨p2, q2, r2, rfl, hO2, hb⟩
  have K2 := hide ((unhide K1).trans (hb.mono (unhide K1).size))
  have V2 := hide hO2
  have X2 := hide ((unhide X1).below hb)
  clear hb hO2 X1 x0 x1 x2 x3 x4 x5 K1
  go_wp2_with fail
  refine (unhide HSPP w2 p2 q2 r2 _ (unhide V2)).mono ?_
  rintro e w3 ⟨wv, rfl, hOw, hb⟩
  have K3 := hide ((unhide K2).trans (hb.mono (unhide K2).size))
  have X3 := hide ((unhide X2).below hb)
  have O3 := hide hOw
  have S2 := hide (show w.heap.size < w2.heap.size ∧ w2.heap.size ≤ w3.heap.size from ⟨(unhide X2).1, hb.size⟩)
  clear hb hOw X2 K2 V2
  have x0 := (unhide X3).cell 0 rfl
  have x1 := (unhide X3).cell 1 rfl
  have x2 := (unhide X3).cell 2 rfl
  have x3 := (unhide X3).cell 3 rfl
  have x4 := (unhide X3).cell 4 rfl
  have x5 := (unhide X3).cell 5 rfl
  go_wp2_with fail
  refine (unhide HTT w3 (unhide K3)).mono ?_
  rintro e w4 ⟨p4, q4, r4, rfl, hO4, hb⟩
  have BB := (Below.refl w4.heap.size w4).alloc (Nat.le_refl _) (.cells #[.slice (some ⟨p4, 0, none⟩) ls.length ls.length, .string k, .string v, .int .i64 at_, .slice (some ⟨q4, 0, none⟩) ks.length ks.length, .slice (some ⟨r4, 0, none⟩) ss.length ss.length] 39)
  have K4 := hide (((unhide K3).trans (hb.mono (unhide K3).size)).trans (BB.mono ((unhide K3).trans (hb.mono (unhide K3).size)).size))
  have X4 := hide (((unhide X3).below hb).below BB)
  have O4 := hide (((unhide O3).below hb).below BB)
  have V4 := hide (hO4.below BB)
  have L4 := hide (hO4.up.below BB)
  have Y4 := hide (Blk.new w4 #[.slice (some ⟨p4, 0, none⟩) ls.length ls.length, .string k, .string v, .int .i64 at_, .slice (some ⟨q4, 0, none⟩) ks.length ks.length, .slice (some ⟨r4, 0, none⟩) ss.length ss.length] 39 w4.heap.size rfl)
  have S4 := hide (show w3.heap.size ≤ w4.heap.size ∧ (∀ x, wv.ownBlock = some x → x < w3.heap.size) from ⟨hb.size, fun x hx => ((unhide O3).lt x hx).2⟩)
  clear hb BB hO4 X3 O3 K3 x0 x1 x2 x3 x4 x5
  have y0 := (unhide Y4).cell 0 rfl
  have y1 := (unhide Y4).cell 1 rfl
  have y2 := (unhide Y4).cell 2 rfl
  have y3 := (unhide Y4).cell 3 rfl
  have y4 := (unhide Y4).cell 4 rfl
  have y5 := (unhide Y4).cell 5 rfl
  go_wp2_with fail
  refine (unhide HIMM _ p4 q4 r4 _ (unhide V4) (unhide K4)).mono ?_
  rintro e w5 ⟨gv, rfl, hOg, hb⟩
  have P5 : Hid (Qw w w2.heap.size w4.heap.size (w4.alloc (.cells #[.slice (some ⟨p4, 0, none⟩) ls.length ls.length, .string k, .string v, .int .i64 at_, .slice (some ⟨q4, 0, none⟩) ks.length ks.length, .slice (some ⟨r4, 0, none⟩) ss.length ss.length] 39)).heap.size [.slice la ls.length lc, .string k, .string v, .int .i64 at_, .slice ka ks.length kc, .slice sa ss.length sc] wv gv p p w5) := hide
    ⟨(unhide K4).trans (hb.mono (unhide K4).size), (unhide X4).below hb, (unhide O4).below hb, hOg, fun x hx => Nat.lt_of_lt_of_le ((unhide S4).2 x hx) (unhide S4).1, (unhide S2).1, Nat.le_trans (unhide S2).2 (unhide S4).1, (unhide Y4).1⟩
  have L5 := hide ((unhide L4).below hb)
  have Y5 := hide ((unhide Y4).below hb)
  have S5 := hide (And.intro (show w.heap.size < w3.heap.size from Nat.lt_of_lt_of_le (unhide S2).1 (unhide S2).2) (And.intro (unhide S4).2 (Nat.le_of_lt (unhide Y4).1)))
  clear hb hOg K4 X4 O4 V4 L4 Y4 S2 S4 y0 y1 y2 y3 y4 y5 HSPP
  generalize (w4.alloc (.cells #[.slice (some ⟨p4, 0, none⟩) ls.length ls.length, .string k, .string v, .int .i64 at_, .slice (some ⟨q4, 0, none⟩) ks.length ks.length, .slice (some ⟨r4, 0, none⟩) ss.length ss.length] 39)).heap.size = G at *
  generalize w2.heap.size = s at *
  generalize w3.heap.size = B3 at *
  generalize w4.heap.size = yb at *
  have b1 : (c != c) = false := by simp
  have b2 : (c == c) = true := by simp
  go_wp2_with fail
  refine (eqStringS_any _ _ p w5 (unhide P5).og.strs (unhide P5).ow.strs (unhide HPN)).mono ?_
  rintro e w6 ⟨rfl, n, hw6⟩
  have hd6 := below_drewN (Below.refl w5.heap.size w5) n
  rw [← hw6] at hd6
  have P6 := hide ((unhide P5).below hd6)
  have L6 := hide ((unhide L5).below hd6)
  have Y6 := hide ((unhide Y5).below hd6)
  clear hw6 hd6 P5 L5 Y5
  have hzy := (unhide Y6).1
  have hzx := (unhide P6).xl.1
  have y0 := (unhide Y6).cell 0 rfl
  have x0 := (unhide P6).xl.cell 0 rfl
  have y1 := (unhide Y6).cell 1 rfl
  have x1 := (unhide P6).xl.cell 1 rfl
  have y2 := (unhide Y6).cell 2 rfl
  have x2 := (unhide P6).xl.cell 2 rfl
  have y3 := (unhide Y6).cell 3 rfl
  have x3 := (unhide P6).xl.cell 3 rfl
  have y4 := (unhide Y6).cell 4 rfl
  have x4 := (unhide P6).xl.cell 4 rfl
  have y5 := (unhide Y6).cell 5 rfl
  have x5 := (unhide P6).xl.cell 5 rfl
  go_upto_region 10 with fail
  go_cut [49] (fun s wx => s = .bool false ∧ Hid (Below w6.heap.size w6 wx))
  case first =>
    refine wp_region_noPanic ?_
    refine wp_region_held_drew (S := (fun wx => wx.cell? ⟨yb, 0, none⟩ = some (.slice (some ⟨p4, 0, none⟩) ls.length ls.length) ∧ wx.cell? ⟨yb, 1, none⟩ = some (.string k) ∧ wx.cell? ⟨yb, 2, none⟩ = some (.string v) ∧ wx.cell? ⟨yb, 3, none⟩ = some (.int .i64 at_) ∧ wx.cell? ⟨yb, 4, none⟩ = some (.slice (some ⟨q4, 0, none⟩) ks.length ks.length) ∧ wx.cell? ⟨yb, 5, none⟩ = some (.slice (some ⟨r4, 0, none⟩) ss.length ss.length) ∧ wx.cell? ⟨w.heap.size, 0, none⟩ = some (.slice la ls.length lc) ∧ wx.cell? ⟨w.heap.size, 1, none⟩ = some (.string k) ∧ wx.cell? ⟨w.heap.size, 2, none⟩ = some (.string v) ∧ wx.cell? ⟨w.heap.size, 3, none⟩ = some (.int .i64 at_) ∧ wx.cell? ⟨w.heap.size, 4, none⟩ = some (.slice ka ks.length kc) ∧ wx.cell? ⟨w.heap.size, 5, none⟩ = some (.slice sa ss.length sc))) (by kernel_rfl) ?_ (fun hHeld => ?_)
    · exact ⟨y0, y1, y2, y3, y4, y5, x0, x1, x2, x3, x4, x5⟩
    have KD : Hid (Below w6.heap.size w6 w6.drew) := hide (below_drewN (Below.refl _ w6) 1)
    have K8 := hide ((unhide P6).b.trans ((unhide KD).mono (unhide P6).b.size))
    refine tkH 0 rfl ?_
    refine tkH 1 rfl ?_
    refine wpAnyH_ready (rs := [2]) (by kernel_rfl) (by simp) ?_
    refine AllReadyH.cons (o := _) rfl (fun K hK => ?_) AllReadyH.nil
    go_simp
    refine (unhide HTT _ (unhide K8)).mono ?_
    rintro e w8 ⟨p8, q8, r8, rfl, hO, hb⟩
    have KD8 := hide ((unhide KD).trans (hb.mono (unhide KD).size))
    have V8 := hide hO
    clear hb hO
    go_wp2_with fail
    refine hK.out _ _ ?_ (fun hHeld => ?_)
    · exact ⟨((unhide KD8).cell (p := ⟨yb, 0, none⟩) hzy).trans y0, ((unhide KD8).cell (p := ⟨yb, 1, none⟩) hzy).trans y1, ((unhide KD8).cell (p := ⟨yb, 2, none⟩) hzy).trans y2, ((unhide KD8).cell (p := ⟨yb, 3, none⟩) hzy).trans y3, ((unhide KD8).cell (p := ⟨yb, 4, none⟩) hzy).trans y4, ((unhide KD8).cell (p := ⟨yb, 5, none⟩) hzy).trans y5, ((unhide KD8).cell (p := ⟨w.heap.size, 0, none⟩) hzx).trans x0, ((unhide KD8).cell (p := ⟨w.heap.size, 1, none⟩) hzx).trans x1, ((unhide KD8).cell (p := ⟨w.heap.size, 2, none⟩) hzx).trans x2, ((unhide KD8).cell (p := ⟨w.heap.size, 3, none⟩) hzx).trans x3, ((unhide KD8).cell (p := ⟨w.heap.size, 4, none⟩) hzx).trans x4, ((unhide KD8).cell (p := ⟨w.heap.size, 5, none⟩) hzx).trans x5⟩
    clear hK K
    (try simp only [Act.put, List.getElem_toArray, List.getElem_cons_succ, List.getElem_cons_zero, List.setIfInBounds_toArray, List.set_cons_zero, List.set_cons_succ])
    refine wpAnyH_ready (rs := [3]) (by kernel_rfl) (by simp) ?_
    refine AllReadyH.cons (o := _) rfl (fun K hK => ?_) AllReadyH.nil
    go_simp
    refine (eqLedger_any ls k v at_ ks ss _ _ _ _ _ _ _ _ _ _ _ _ w8 ((unhide L6).below (unhide KD8)).led (unhide V8).led (unhide HSM).n1 (unhide HSM).n3).mono ?_
    rintro e w9 ⟨rfl, hb⟩
    have KD9 := hide ((unhide KD8).trans (hb.mono (unhide KD8).size))
    clear hb
    go_wp2_with fail
    refine hK.out _ _ ?_ (fun hHeld => ?_)
    · exact ⟨((unhide KD9).cell (p := ⟨yb, 0, none⟩) hzy).trans y0, ((unhide KD9).cell (p := ⟨yb, 1, none⟩) hzy).trans y1, ((unhide KD9).cell (p := ⟨yb, 2, none⟩) hzy).trans y2, ((unhide KD9).cell (p := ⟨yb, 3, none⟩) hzy).trans y3, ((unhide KD9).cell (p := ⟨yb, 4, none⟩) hzy).trans y4, ((unhide KD9).cell (p := ⟨yb, 5, none⟩) hzy).trans y5, ((unhide KD9).cell (p := ⟨w.heap.size, 0, none⟩) hzx).trans x0, ((unhide KD9).cell (p := ⟨w.heap.size, 1, none⟩) hzx).trans x1, ((unhide KD9).cell (p := ⟨w.heap.size, 2, none⟩) hzx).trans x2, ((unhide KD9).cell (p := ⟨w.heap.size, 3, none⟩) hzx).trans x3, ((unhide KD9).cell (p := ⟨w.heap.size, 4, none⟩) hzx).trans x4, ((unhide KD9).cell (p := ⟨w.heap.size, 5, none⟩) hzx).trans x5⟩
    clear hK K
    (try simp only [Act.put, List.getElem_toArray, List.getElem_cons_succ, List.getElem_cons_zero, List.setIfInBounds_toArray, List.set_cons_zero, List.set_cons_succ])
    refine tkH 4 rfl ?_
    refine wpAnyH_done (by kernel_rfl) (NoPanic.normal ?_) _
    go_wp2_with fail
    go_meet
    exact ⟨rfl, KD9⟩
  case rest =>
    obtain ⟨rfl, HG⟩ := hcut
    obtain ⟨w9, hw9e⟩ : ∃ w9, w9 = wc := ⟨_, rfl⟩
    rw [← hw9e] at HG ⊢
    clear hw9e wc
    have P9 := hide ((unhide P6).below (unhide HG))
    have L9 := hide ((unhide L6).below (unhide HG))
    have Y9 := hide ((unhide Y6).below (unhide HG))
    clear HG P6 L6 Y6 hzy hzx x0 x1 x2 x3 x4 x5 y0 y1 y2 y3 y4 y5
    have y0 := (unhide Y9).cell 0 rfl
    have y1 := (unhide Y9).cell 1 rfl
    have y2 := (unhide Y9).cell 2 rfl
    have y3 := (unhide Y9).cell 3 rfl
    have y4 := (unhide Y9).cell 4 rfl
    have y5 := (unhide Y9).cell 5 rfl
    go_wp2_with fail
    refine (markLedger_any ls k v at_ ks ss _ _ _ _ _ _ B3 yb w9 (unhide L9) (Nat.le_of_lt (unhide Y9).1) (unhide HSM).n1 (unhide HCX).1 (unhide HSM).n3 (unhide HCX).2).mono ?_
    rintro e w10 ⟨kk, rfl, ht⟩
    have P10 := hide ((unhide P9).between ht (unhide S5).1 (unhide S5).2.1 (unhide S5).2.2)
    clear ht P9 L9 Y9 y0 y1 y2 y3 y4 y5
    have hk0 : ¬ (kk : Int) < 0 := by omega
    go_wp2_with fail
    refine (eqStringS_any _ _ p w10 (unhide P10).og.strs (unhide P10).ow.strs (unhide HPN)).mono ?_
    rintro e w11 ⟨rfl, n, hw11⟩
    have P11 := hide ((unhide P10).below (below_drewN (Below.refl _ w10) n))
    rw [← hw11] at P11
    clear hw11 P10
    go_wp2_with fail
    refine (markStringS_any G gv p w11 (unhide P11).og (unhide HPN)).mono ?_
    rintro e w12 ⟨rfl, hO12, hT12⟩
    have P12 := hide ((unhide P11).markG hO12 hT12)
    clear hO12 hT12 P11
    go_wp2_with fail
    refine (heldStringS_any G gv p.length w12 (unhide P12).og (unhide HPN)).mono ?_
    rintro e w13 ⟨rfl, hb13⟩
    have P13 := hide ((unhide P12).below hb13)
    clear hb13 P12
    have hk12 : ¬ 1 + (p.length : Int) < 0 := by omega
    have x0 := (unhide P13).xl.cell 0 rfl
    have x1 := (unhide P13).xl.cell 1 rfl
    have x2 := (unhide P13).xl.cell 2 rfl
    have x3 := (unhide P13).xl.cell 3 rfl
    have x4 := (unhide P13).xl.cell 4 rfl
    have x5 := (unhide P13).xl.cell 5 rfl
    go_wp2_with fail
    refine (unhide HTT w13 (unhide P13).b).mono ?_
    rintro e w14 ⟨p14, q14, r14, rfl, hO, hb⟩
    have P14 := hide ((unhide P13).below hb)
    have V14 := hide hO
    clear hO hb P13 x0 x1 x2 x3 x4 x5
    go_wp2_with fail
    refine (unhide HIMM w14 p14 q14 r14 _ (unhide V14) (unhide P14).b).mono ?_
    rintro e w15 ⟨hv, rfl, hO, hb⟩
    have P15 := hide ((unhide P14).below hb)
    have O15 := hide hO
    clear hO hb P14 V14
    go_wp2_with fail
    refine (eqStringS_any _ _ p w15 (unhide O15).strs (unhide P15).ow.strs (unhide HPN)).mono ?_
    rintro e w16 ⟨rfl, n, hw16⟩
    have P16 := hide ((unhide P15).below (below_drewN (Below.refl _ w15) n))
    rw [← hw16] at P16
    clear hw16 P15 O15
    go_wp2_with fail
    refine (heldStringS_any G gv p.length w16 (unhide P16).og (unhide HPN)).mono ?_
    rintro e w17 ⟨rfl, hb17⟩
    have P17 := hide ((unhide P16).below hb17)
    clear hb17 P16
    go_wp2_with fail
    go_ret
    exact ⟨rfl, (unhide P17).b⟩

theorem vars_of_laid {W : World} (h : laidMetH Tryd.prog Rows.fnExactProveGrowthRow.laid W) :
    W.var? Tryd.prog "loop.example/g00220/impl.firstWords" = some firstCells ∧ W.var? Tryd.prog "loop.example/g00220/impl.roundWords" = some roundCells := by
  rw [MakeChecks.laidMetH_plain _ _ _ (by kernel_rfl)] at h
  obtain ⟨ps, ⟨g0, t0, cs0, f0, p0, q0, hg0, ht0, hv0, hd0, ⟨g1, t1, cs1, f1, p1, q1, hg1, ht1, hv1, hd1, _, _⟩, _⟩, _, _⟩ := h
  obtain rfl := Option.some.inj (gFirst.symm.trans hg0)
  obtain rfl := Option.some.inj (gRound.symm.trans hg1)
  obtain rfl := Option.some.inj (gFirstType.symm.trans ht0)
  obtain rfl := Option.some.inj (gRoundType.symm.trans ht1)
  have e0 := Lib.cells_of_tab (k := .u32) (cs := cs0.toList) (zs := iL.map fun (n : Nat) => (n : Int)) Tryd.underlying140 Tryd.underlying130 cellsE cellsA hd0
  have e1 := Lib.cells_of_tab (k := .u32) (cs := cs1.toList) (zs := kL.map fun (n : Nat) => (n : Int)) Tryd.underlying144 Tryd.underlying130 cellsE cellsB hd1
  have a0 : cs0 = firstCells := by
    have : cs0.toList = firstCells.toList := e0.trans (by kernel_rfl)
    exact Array.toList_inj.1 this
  have a1 : cs1 = roundCells := by
    have : cs1.toList = roundCells.toList := e1.trans (by kernel_rfl)
    exact Array.toList_inj.1 this
  exact ⟨by rw [hv0, a0], by rw [hv1, a1]⟩
theorem door_met (os : Os) (args : Array Value) : laidMetH Tryd.prog Rows.fnExactProveGrowthRow.laid ((World.doorLaid Tryd.prog 19 os).forCall (fun _ _ => 0) ⟨#[], args, []⟩).memory :=
  laidMetH_of_parts3 (fuel := 8) (laidMet_of_run' 8 (by kernel_rfl) (by kernel_rfl)) (by kernel_rfl) (by kernel_rfl)
set_option maxRecDepth 100000 in
theorem lifted (os : Os) (started : os.Started) (H : Type) (enc : TypeId × Value → H) :
    ReturnsInHanded {} Tryd.checked os 5 .any (fun w args => (Rows.fnExactProveGrowthSpec.pre enc Tryd.prog Tryd.f5 [] false w args ∧ laidMetH Tryd.prog Rows.fnExactProveGrowthRow.laid w) ∧ sizedMet enc Tryd.prog Tryd.f5 (OpenSpec.ofChange Rows.fnExactProveGrowthSpec) false w args)
      (Rows.fnExactProveGrowthSpec.post enc Tryd.prog Tryd.f5 false true false false) := by
  refine returnsInHanded_of_change_and (C := Tryd.checked) (X := fun w _ => laidMetH Tryd.prog Rows.fnExactProveGrowthRow.laid w) (fun _ _ _ hh h => h.of_heap hh) own started (by kernel_rfl) Tryd.func5
    (ChangeSpec.witness_shaped (enc := enc) (C := Tryd.checked) (os := os) (X := fun w _ => laidMetH Tryd.prog Rows.fnExactProveGrowthRow.laid w) false (World.doorLaid Tryd.prog 19 os) #[.agg #[.slice none 0 0, .string ByteArray.empty, .string ByteArray.empty, .int .i64 0, .slice none 0 0, .slice none 0 0], .int .i64 0] 8 rfl (World.shaped_of_RefB (by kernel_rfl) (by kernel_rfl)) (by kernel_rfl) (by kernel_rfl) (by kernel_rfl) (door_met os _)) ?_
  intro W base args ds gs before hval0 hW _ _ hL _
  have hval : ∀ (j : Nat) t v, Tryd.f5.params[j]? = some t → args[j]? = some v → Value.okWide Tryd.prog W .any base t v := hval0
  have hW' := hW
  obtain ⟨p, q, hA0, hV0, rfl, hfz, hnd⟩ := hW
  have hA : DataW.TrodAll enc Tryd.prog W 0 (fun _ => true) true Tryd.f5.params.toList args.toList ds p := hA0
  have hV : DataW.TrodVars enc Tryd.prog W (fun _ => true) ["loop.example/g00220/impl.firstWords", "loop.example/g00220/impl.roundWords"] gs q := hV0
  rw [Tryd.params5] at hA hval
  obtain ⟨v0, vs0, d0, ds0, p0, q0, hargs, rfl, rfl, h0, r0⟩ := trodAll_cons hA
  obtain ⟨v1, vs1, d1, ds1, p1, q1, rfl, rfl, rfl, h1, r1⟩ := trodAll_cons r0
  obtain ⟨rfl, rfl, rfl⟩ := trodAll_nil r1
  obtain rfl : args = #[v0, v1] := by cases args; simp_all
  have k0 := h0
  have lt0 : ∀ x ∈ p0, x.block < W.heap.size := by obtain ⟨m, hm⟩ := k0; exact DataW.trod_lt m _ _ _ hm
  obtain ⟨lv0, ky0, va0, at0, kv0, sv0, ls0, ks0, ss0, rfl, hf0, hz0, hy0, hl0, hs0⟩ := open_ledger (hval 0 28 v0 rfl rfl) h0
  have k1 := h1
  have lt1 : ∀ x ∈ p1, x.block < W.heap.size := by obtain ⟨m, hm⟩ := k1; exact DataW.trod_lt m _ _ _ hm
  obtain ⟨a1, rfl, _, _, w1⟩ := open_int Tryd.underlying3 (hval 1 3 v1 rfl rfl) h1
  obtain ⟨hvA, hvB⟩ := vars_of_laid hL
  clear hA0 hV0 hval0
  refine (walk lv0 ky0 va0 at0 kv0 sv0 ls0 ks0 ss0 a1 W hf0 hz0 hy0 hl0 hs0 w1 (first_of hvA) (table_of hvB)).mono fun e W' ⟨he, bel⟩ => ?_
  subst he
  obtain ⟨rfl, pv, hvs⟩ := vars_again (sp := fun b => decide (b < W.heap.size)) hvA hvB hV bel
  exact ⟨_, rfl, _, _, _, [], _, pv, hW', trodAll_mk1 (shut_bool Tryd.underlying4 _), (trodAll_cons_mk (Below.trod laidOut (by kernel_rfl) (of_decide_eq_true (by kernel_rfl)) k0 bel lt0) (trodAll_cons_mk (Below.trod laidOut (by kernel_rfl) (of_decide_eq_true (by kernel_rfl)) k1 bel lt1) trodAll_mk0)), hvs, bel.frame _, fun h => by cases h⟩

theorem said : Rows.FnExactProveGrowthSaid :=
  OpenClaim.holds_of_wide 5 Tryd.f5 rfl rfl rfl rfl rfl rfl rfl ⟨rfl, rfl, rfl, rfl, rfl⟩ rfl rfl rfl rfl rfl (by kernel_rfl) Tryd.func5 (by kernel_rfl)
    (of_decide_eq_true (by kernel_rfl)) (by unfold Func.isWrapper; first | (rw [if_pos (by decide +kernel)]; kernel_rfl) | (rw [if_neg (by decide +kernel)]; exact ⟨rfl, rfl⟩))
    (fun os started H enc _ => lifted os started H enc)

theorem plain (f : FuncId) (fn : Func) (hf : Tryd.pinned.checked.prog.funcNamed "loop.example/g00220/laws.FnExactProveGrowth" = some f) (hfn : Tryd.pinned.checked.prog.funcs[f]? = some fn) :
    false = Tryd.pinned.checked.prog.looks [] ∧ ∀ (j : Nat) t, fn.params[j]? = some t → Tryd.pinned.checked.prog.wantsStandIn t = false := by
  obtain rfl : f = 5 := Option.some.inj ((show Tryd.prog.funcNamed "loop.example/g00220/laws.FnExactProveGrowth" = some 5 by kernel_rfl).symm.trans hf) |>.symm
  obtain rfl : fn = Tryd.f5 := (Option.some.inj (Tryd.func5.symm.trans hfn)).symm
  refine ⟨by kernel_rfl, fun j t ht => ?_⟩
  rw [Tryd.params5] at ht
  have hmem : t = 28 ∨ t = 3 := by
    have := Array.mem_of_getElem? ht
    simp only [List.mem_toArray, List.mem_cons, List.not_mem_nil, or_false] at this
    rcases this with h | h
    all_goals (subst h; simp)
  rcases hmem with rfl | rfl
  · exact (show Tryd.prog.wantsStandIn 28 = false by kernel_rfl)
  · exact (show Tryd.prog.wantsStandIn 3 = false by kernel_rfl)
end Go.Proofs.YtkojmnlfpccbiaaDoor.fnExactProveGrowth
namespace Go.Proofs.YtkojmnlfpccbiaaDoor
theorem fnExactProveGrowth_card : Rows.FnExactProveGrowthCardSaid :=
  Claim7.holds_tied_plain_at .later [] _ _ _ _ fnExactProveGrowth.said (fun _ h => by cases h) (by kernel_rfl) (fun _ h => by cases h) fnExactProveGrowth_row_tie rfl ⟨rfl, rfl⟩ (by kernel_rfl) rfl fnExactProveGrowth.plain (by kernel_rfl)
#print axioms fnExactProveGrowth_card
end Go.Proofs.YtkojmnlfpccbiaaDoor
