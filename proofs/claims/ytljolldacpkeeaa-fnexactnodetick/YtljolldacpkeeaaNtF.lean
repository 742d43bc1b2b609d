/- (*actor).stand, walked. (Written by py/ntf.py.) -/
import Derived.Test.YtljolldacpkeeaaNtB
import Derived.Test.YtljolldacpkeeaaNtD
import Derived.Test.YtljolldacpkeeaaNpO
namespace Go.Proofs.Ytljolldacpkeeaa
open Go.ChangeShapes Go.WideShapes Go.ChangeAt Go.RowKit Go.Deep
set_option linter.unusedVariables false
set_option linter.unusedSimpArgs false

/-- A node that begins to lead, and what it sends. -/
def leadOut (n : NoD) : NoD × List MV :=
  ({ n with ro := 2, el := 0, lg := leadL n.tm n.lg, nx := List.replicate 7 ((n.lg.length : Int) + 1), mt := List.replicate 7 0, cm := advTo n.id n.tm n.cm (leadL n.tm n.lg) (List.replicate 7 0) (mbAt (leadL n.tm n.lg) n.st (leadL n.tm n.lg).length) (leadL n.tm n.lg).length },
    tellL n.id n.tm n.cm (leadL n.tm n.lg) (List.replicate 7 ((n.lg.length : Int) + 1)) (mbAt (leadL n.tm n.lg) n.st (leadL n.tm n.lg).length))
/-- A node that asks for votes. -/
def canN (n : NoD) (draw : Int) : NoD := { n with tm := n.tm + 1, vo := n.id, ro := 1, vs := [n.id], el := 0, wt := 5 + draw % 8 }
def standOut (n : NoD) (draw : Int) : NoD × List MV :=
  if mostB (fun x => decide (x ∈ [n.id])) (mbAt n.lg n.st n.lg.length) then leadOut (canN n draw) else (canN n draw, pleaL n.id (n.tm + 1) n.lg (mbAt n.lg n.st n.lg.length))
/-- An actor that did something: the node it is now, what it sends. -/
def ActR (B b : Nat) (n : NoD) (ms : List MV) (w w' : World) : Prop :=
  ∃ la lc sa sc va vc na nc ma mc v l, Blk w' b [.int .i64 n.id, .int .i64 n.tm, .int .i64 n.vo, .slice la n.lg.length lc, .slice sa n.st.length sc, .int .i64 n.ro, .slice va n.vs.length vc, .slice na n.nx.length nc, .slice ma n.mt.length mc, .int .i64 n.cm, .int .i64 n.el, .int .i64 n.wt, .bool n.up, v] ∧ NoO B w' (.slice la n.lg.length lc) (.slice sa n.st.length sc) (.slice va n.vs.length vc) (.slice na n.nx.length nc) (.slice ma n.mt.length mc) n.lg n.st n.vs n.nx n.mt ∧ Ns mgS B w' v l.length l ∧ l.map bareM = ms ∧ (∀ q, NoT [.slice la n.lg.length lc, .slice sa n.st.length sc, .slice va n.vs.length vc, .slice na n.nx.length nc, .slice ma n.mt.length mc] q → q ≠ b ∧ ¬ NsT mgS v l q) ∧ (∀ q, NsT mgS v l q → q ≠ b) ∧ Touch (fun q => B ≤ q) w w'
/-- The votes are another list. -/
theorem NoO.votes {B : Nat} {w w' : World} {lv sv vv vv' nv mv : Value} {lg : List En} {st vs vs' nx mt : List Int} (h : NoO B w lv sv vv nv mv lg st vs nx mt) (ht : Below w.heap.size w w') (hv : OwnI w.heap.size w' vv' vs') (hB : B ≤ w.heap.size) : NoO B w' lv sv vv' nv mv lg st vs' nx mt := by
  have a := h.ap
  have hb := fun k hk => (NoO.blk h k hk).2
  have hv' := hv.lt
  simp only [List.pairwise_cons, List.mem_cons, List.not_mem_nil, or_false, forall_eq_or_imp, forall_eq, List.Pairwise.nil, and_true] at a ⊢
  obtain ⟨⟨a1, a2, a3, a4⟩, ⟨a5, a6, a7⟩, ⟨a8, a9⟩, a10⟩ := a
  refine ⟨h.lg.below ht, h.st.below ht, hv.mono hB, h.nx.below ht, h.mt.below ht, ?_⟩
  simp only [List.pairwise_cons, List.mem_cons, List.not_mem_nil, or_false, forall_eq_or_imp, forall_eq, List.Pairwise.nil, and_true]
  exact ⟨⟨a1, fun k h1 h2 => by have := hb k ⟨lv, by simp, h1⟩; have := hv' k h2; omega, a3, a4⟩, ⟨fun k h1 h2 => by have := hb k ⟨sv, by simp, h1⟩; have := hv' k h2; omega, a6, a7⟩, ⟨fun k h1 h2 => by have := hv' k h1; have := hb k ⟨nv, by simp, h2⟩; omega, fun k h1 h2 => by have := hv' k h1; have := hb k ⟨mv, by simp, h2⟩; omega⟩, a10.1, a10.2⟩
set_option maxRecDepth 100000 in
set_option maxHeartbeats 2000000 in
theorem stand_any (B b : Nat) (id tm vo ro cm el wt : Int) (up : Bool) (lg : List En) (st vs nx mt : List Int) (la : Option Addr) (lc : Nat) (sa : Option Addr) (sc : Nat) (va : Option Addr) (vc : Nat) (g nc h mc : Nat) (draw : Int) (w : World) (hX : Blk w b [.int .i64 id, .int .i64 tm, .int .i64 vo, .slice la lg.length lc, .slice sa st.length sc, .int .i64 ro, .slice va vs.length vc, .slice (some ⟨g, 0, none⟩) 7 nc, .slice (some ⟨h, 0, none⟩) 7 mc, .int .i64 cm, .int .i64 el, .int .i64 wt, .bool up, .slice none 0 0]) (hO : NoO B w (.slice la lg.length lc) (.slice sa st.length sc) (.slice va vs.length vc) (.slice (some ⟨g, 0, none⟩) 7 nc) (.slice (some ⟨h, 0, none⟩) 7 mc) lg st vs nx mt) (hap : ∀ v ∈ ([.slice la lg.length lc, .slice sa st.length sc, .slice va vs.length vc, .slice (some ⟨g, 0, none⟩) 7 nc, .slice (some ⟨h, 0, none⟩) 7 mc] : List Value), v.ownBlock ≠ some b) (hlo : B ≤ b) (hB : B ≤ w.heap.size) (hz : ∀ i, (lg.getD i default).d.size ≤ maxLen) (hl : lg.length ≤ 60) (hg : CfgOK lg) (hst : mFault st = 0) (hnx : nx.length = 7) (hmt : mt.length = 7) (hc : 0 ≤ cm) (htm : 0 ≤ tm ∧ tm < 1000000) (hdr : 0 ≤ draw ∧ draw ≤ 1000000) :
    Calls Try.prog 56 #[.pointer (some ⟨b, 0, none⟩), .int .i64 draw] w fun e w' => (∃ v, e = .returned v) ∧ ActR B b (standOut (⟨id, tm, vo, ro, cm, el, wt, up, lg, st, vs, nx, mt⟩ : NoD) draw).1 (standOut (⟨id, tm, vo, ro, cm, el, wt, up, lg, st, vs, nx, mt⟩ : NoD) draw).2 w w' := by
  have hbw := hX.1
  have HC := hide (becomeCan_any b _ (by simp) w hX)
  have HO := hide hO
  have HAP := hide hap
  have hapn : ∀ q, NoT [.slice la lg.length lc, .slice sa st.length sc, .slice va vs.length vc, .slice (some ⟨g, 0, none⟩) 7 nc, .slice (some ⟨h, 0, none⟩) 7 mc] q → q ≠ b := fun q hq e => by obtain ⟨v, hv, hvq⟩ := hq; exact hap v hv (by rw [hvq, e])
  have HAN := hide hapn
  have HBL := hide (NoO.blk hO)
  have HS := hide (And.intro hz (And.intro hl (And.intro hg (And.intro hst (And.intro hnx (And.intro hmt hc))))))
  have q1 : IntKind.i64.wrap (tm + 1) = tm + 1 := wrapSm _ (by omega) (by omega)
  have hd0 : 0 ≤ draw % 8 := by omega
  have hd1 : draw % 8 < 8 := by omega
  have q2 : IntKind.i64.wrap (draw % 8) = draw % 8 := wrapSm _ hd0 (by omega)
  have q3 : IntKind.i64.wrap (5 + draw % 8) = 5 + draw % 8 := wrapSm _ (by omega) (by omega)
  clear hX hO hap hz hg hst hnx hmt hc hapn hl
  go_enter Try.func56, Try.ntmps56
  go_wp2_with fail
  refine (unhide HC).mono ?_
  rintro e w1 ⟨⟨v1, rfl⟩, hX1, hT1⟩
  simp only [List.set_cons_succ, List.set_cons_zero] at hX1
  have x1 := hX1.cell 1 rfl
  have f1 := hX1.fro 1
  have X2 := hX1.set 1 (.int .i64 (tm + 1)) (by simp)
  simp only [List.set_cons_succ, List.set_cons_zero] at X2
  have T2 := hide ((hT1.trans (T' := fun q => q = b) ((Touch.refl (fun q => q = b) w1).setCell ⟨b, 1, none⟩ (.int .i64 (tm + 1)) (fun _ => rfl)) (fun _ _ e => e)))
  have HX2 := hide X2
  clear hX1 hT1 X2 HC
  go_upto_region 2 with fail
  clear x1 f1
  generalize w1.setCell ⟨b, 1, none⟩ (.int .i64 (tm + 1)) = w2 at *
  have hs2 := (unhide T2).size
  have hb2 : b < w2.heap.size := (unhide HX2).1
  have O2 := hide (NoO.keep (unhide HO) (unhide T2) (unhide HAN))
  have x0 := (unhide HX2).cell 0 rfl
  have x2 := (unhide HX2).cell 2 rfl
  have x6 := (unhide HX2).cell 6 rfl
  have f2 := (unhide HX2).fro 2
  have f6 := (unhide HX2).fro 6
  have hne : ¬ b = w2.heap.size := by omega
  go_big_region
  have X2a := ((unhide HX2).set 2 (.int .i64 id) (by simp)).set 6 (.slice (some ⟨w2.heap.size, 0, none⟩) 1 1) (by simp)
  have T2a := ((Touch.refl (fun q => q = b) w2).setCell ⟨b, 2, none⟩ (.int .i64 id) (fun _ => rfl)).setCell ⟨b, 6, none⟩ (.slice (some ⟨w2.heap.size, 0, none⟩) 1 1) (fun _ => rfl)
  have hsz : ((w2.setCell ⟨b, 2, none⟩ (.int .i64 id)).setCell ⟨b, 6, none⟩ (.slice (some ⟨w2.heap.size, 0, none⟩) 1 1)).heap.size = w2.heap.size := by simp only [World.size_setCell]
  have O2a := NoO.keep (unhide O2) T2a (unhide HAN)
  simp only [List.set_cons_succ, List.set_cons_zero] at X2a
  generalize hwa : (w2.setCell ⟨b, 2, none⟩ (.int .i64 id)).setCell ⟨b, 6, none⟩ (.slice (some ⟨w2.heap.size, 0, none⟩) 1 1) = wa at *
  have BA := below_drewN ((Below.refl wa.heap.size wa).alloc (Nat.le_refl _) (.cells #[.int .i64 id] 3)) 1
  have OV := (own_one wa id wa.heap.size (Nat.le_refl _)).drewN 1
  have X3 := X2a.below BA
  have O3 := NoO.votes O2a BA OV (by omega)
  have T3 := (((unhide T2).trans (T' := fun q => q = b) T2a (fun _ _ e => e))).trans (T' := fun _ => False) (Touch.ofBelow BA) (fun _ _ e => e.elim)
  have HX3 := hide X3
  have HO3 := hide O3
  have HT3 := hide T3
  change Hid (Blk (wa.alloc (.cells #[.int .i64 id] 3)).drew b _) at HX3
  change Hid (NoO B (wa.alloc (.cells #[.int .i64 id] 3)).drew _ _ (.slice (some ⟨wa.heap.size, 0, none⟩) 1 1) _ _ _ _ _ _ _) at HO3
  change Hid (Touch _ w (wa.alloc (.cells #[.int .i64 id] 3)).drew) at HT3
  rw [hsz] at HO3
  obtain ⟨nb, hnb⟩ : ∃ nb, nb = w2.heap.size := ⟨_, rfl⟩
  rw [← hnb] at HO3 HX3
  have hbn : b < nb := by omega
  have hwn : w.heap.size ≤ nb := by omega
  have HNB := hide hnb
  clear x0 x2 x6 f2 f6 hne X2a T2a O2a BA OV X3 O3 T3 HX2 T2 O2 hsz hwa
  generalize (wa.alloc (.cells #[.int .i64 id] 3)).drew = w3 at *
  rw [← hnb]
  clear hnb
  have x10 := (unhide HX3).cell 10 rfl
  have x11 := (unhide HX3).cell 11 rfl
  have f10 := (unhide HX3).fro 10
  have f11 := (unhide HX3).fro 11
  have X4 := hide (((unhide HX3).set 10 (.int .i64 0) (by simp)).set 11 (.int .i64 (5 + draw % 8)) (by simp))
  have T34 := ((Touch.refl (fun q => q = b) w3).setCell ⟨b, 10, none⟩ (.int .i64 0) (fun _ => rfl)).setCell ⟨b, 11, none⟩ (.int .i64 (5 + draw % 8)) (fun _ => rfl)
  have hapn : ∀ q, NoT [.slice la lg.length lc, .slice sa st.length sc, .slice (some ⟨nb, 0, none⟩) 1 1, .slice (some ⟨g, 0, none⟩) 7 nc, .slice (some ⟨h, 0, none⟩) 7 mc] q → q ≠ b := fun q hq e => by
    obtain ⟨v, hv, hvq⟩ := hq
    simp only [List.mem_cons, List.not_mem_nil, or_false] at hv
    rcases hv with rfl | rfl | rfl | rfl | rfl
    · exact unhide HAN q ⟨_, by simp, hvq⟩ e
    · exact unhide HAN q ⟨_, by simp, hvq⟩ e
    · simp [Value.ownBlock] at hvq; omega
    · exact unhide HAN q ⟨_, by simp, hvq⟩ e
    · exact unhide HAN q ⟨_, by simp, hvq⟩ e
  have O4 := hide (NoO.keep (unhide HO3) T34 hapn)
  have T4 := hide ((unhide HT3).trans (T' := fun q => q = b) T34 (fun _ _ e => e))
  have HA4 := hide hapn
  simp only [List.set_cons_succ, List.set_cons_zero] at X4
  clear T34 hapn HX3 HO3 HT3
  go_upto_region 4 with fail
  clear x10 x11 f10 f11
  generalize (w3.setCell ⟨b, 10, none⟩ (.int .i64 0)).setCell ⟨b, 11, none⟩ (.int .i64 (5 + draw % 8)) = w4 at *
  obtain ⟨hz, hl, hg, hst, hnx, hmt, hc⟩ := unhide HS
  have hmb := mb_seven lg st hg hst
  have hs4 := (unhide T4).size
  have hb4 : b < w4.heap.size := (unhide X4).1
  have o4 := unhide O4
  have HMo := hide (mostV_any B b la lc sa sc (some ⟨nb, 0, none⟩) 1 lg st [id] hz (by omega) hg w4 hb4 ((unhide X4).cell 3 rfl) ((unhide X4).cell 4 rfl) o4.lg.ens o4.st (by omega) ((unhide X4).cell 6 rfl) o4.vs.ints (by simp) hmb.1 hmb.2)
  have HLd := hide (fun wx (T : Touch (fun q => q = b) w4 wx) (hx : Blk wx b [.int .i64 id, .int .i64 (tm + 1), .int .i64 id, .slice la lg.length lc, .slice sa st.length sc, .int .i64 1, .slice (some ⟨nb, 0, none⟩) 1 1, .slice (some ⟨g, 0, none⟩) 7 nc, .slice (some ⟨h, 0, none⟩) 7 mc, .int .i64 cm, .int .i64 0, .int .i64 (5 + draw % 8), .bool up, .slice none 0 0]) => lead_any B b id (tm + 1) id 1 cm 0 (5 + draw % 8) up lg st [id] nx mt la lc sa sc (some ⟨nb, 0, none⟩) 1 g nc h mc wx hx (NoO.keep o4 T (unhide HA4)) (fun v hv e => unhide HA4 b ⟨v, hv, e⟩ rfl) (by have := T.size; omega) hz hl hg hst hnx hmt hc)
  have HPl := hide (fun wx (hb : Below w4.heap.size w4 wx) => sendPlea_any B b id (tm + 1) id 1 cm 0 (5 + draw % 8) up lg st [id] nx mt la lc sa sc (some ⟨nb, 0, none⟩) 1 (some ⟨g, 0, none⟩) nc (some ⟨h, 0, none⟩) mc wx (by rw [hnx, hmt]; exact (unhide X4).below hb) (o4.lg.ens.below hb) (fun e => unhide HA4 b ⟨_, by simp, e⟩ rfl) (o4.st.below hb) (by have := hb.size; omega) (fun e => unhide HA4 b ⟨_, by simp, e⟩ rfl) hz hl hg hmb.1 hmb.2)
  rw [hnx, hmt] at HPl
  have HNL := hide (And.intro hnx hmt)
  clear hz hl hg hst hnx hmt hc hmb o4 HS
  have HU : Hid (standOut (⟨id, tm, vo, ro, cm, el, wt, up, lg, st, vs, nx, mt⟩ : NoD) draw = if mostB (fun x => decide (x ∈ [id])) (mbAt lg st lg.length) then leadOut (⟨id, tm + 1, id, 1, cm, 0, 5 + draw % 8, up, lg, st, [id], nx, mt⟩ : NoD) else ((⟨id, tm + 1, id, 1, cm, 0, 5 + draw % 8, up, lg, st, [id], nx, mt⟩ : NoD), pleaL id (tm + 1) lg (mbAt lg st lg.length))) := hide rfl
  generalize mostB (fun x => decide (x ∈ [id])) (mbAt lg st lg.length) = bo at *
  go_wp2_with fail
  refine (unhide HMo).mono ?_
  rintro e w5 ⟨rfl, hb5⟩
  have HB5 := hide hb5
  have hs5 := hb5.size
  clear hb5 HMo
  cases bo
  · have HC := hide (unhide HPl w5 (unhide HB5))
    go_wp2_with fail
    refine (unhide HC).mono ?_
    rintro e w6 ⟨⟨v6, rfl⟩, v, l, hX6, hN6, hL6, hT6⟩
    have T6 := (((unhide T4).trans (T' := fun _ => False) (Touch.ofBelow (unhide HB5)) (fun _ _ e => e.elim)).trans (T' := fun q => q = b) hT6 (fun _ _ e => e)).wide (T' := fun q => B ≤ q) (fun k e => by rw [e]; exact hlo)
    have O6 := NoO.keep ((unhide O4).below (unhide HB5)) hT6 (unhide HA4)
    have HR := hide (And.intro hX6 (And.intro O6 (And.intro hN6 (And.intro hL6 T6))))
    have HBk := hide (fun q hq => (NoO.blk (unhide O4) q hq).2)
    clear hX6 hN6 hL6 hT6 T6 O6 HC HPl HLd
    go_wp2_with fail
    go_end0
    refine ⟨⟨_, rfl⟩, ?_⟩
    rw [unhide HU]
    obtain ⟨hX6, O6, hN6, hL6, T6⟩ := unhide HR
    obtain ⟨hnx, hmt⟩ := unhide HNL
    have hge := fun q hq => (nsT_ge hN6 q hq).1
    unfold ActR
    simp only [Bool.false_eq_true, if_false]
    refine ⟨la, lc, sa, sc, some ⟨nb, 0, none⟩, 1, some ⟨g, 0, none⟩, nc, some ⟨h, 0, none⟩, mc, v, l, ?_, ?_, hN6.down (by omega), hL6, ?_, fun q hq e => by have := hge q hq; omega, T6⟩
    · rw [hnx, hmt]; exact hX6
    · rw [hnx, hmt]; exact O6
    · rw [hnx, hmt]; exact fun q hq => ⟨unhide HA4 q hq, fun e => by have := hge q e; have := unhide HBk q hq; omega⟩
  · have HC := hide (unhide HLd w5 (Touch.ofBelow (unhide HB5)) ((unhide X4).below (unhide HB5)))
    go_wp2_with fail
    refine (unhide HC).mono ?_
    rintro e w6 ⟨⟨v6, rfl⟩, hR6⟩
    have HR := hide hR6
    clear hR6 HC HPl HLd
    go_wp2_with fail
    first
      | go_end0
      | refine bodyPost_ret (v := .tuple #[]) (by simp [results, Try.results56, go_sem]) rfl ?_
    refine ⟨⟨_, rfl⟩, ?_⟩
    rw [unhide HU]
    obtain ⟨la', lc', v, l, D, g1, g2, g3, g4, g5, g6, g7, g8⟩ := unhide HR
    have hblk := fun q hq => (NoO.blk (unhide O4) q hq).1
    have T6 := (((unhide T4).trans (T' := fun _ => False) (Touch.ofBelow (unhide HB5)) (fun _ _ e => e.elim)).wide (T' := fun q => B ≤ q) (fun k e => by rw [e]; exact hlo)).trans (T' := fun q => B ≤ q) (g8.wide (fun k e => e.elim (fun e => by rw [e]; exact hlo) (fun e => hblk k e))) (fun _ _ e => e)
    have hge := fun q hq => (nsT_ge g3 q hq).1
    unfold ActR
    simp only [if_true]
    unfold leadOut
    exact ⟨la', lc', sa, sc, some ⟨nb, 0, none⟩, 1, some ⟨g, 0, none⟩, nc, some ⟨h, 0, none⟩, mc, v, l, g1, g2, g3.down (by omega), g4, fun q hq => ⟨(g5 q hq).1, fun e => by have := hge q e; have := (g5 q hq).2; omega⟩, fun q hq e => by have := hge q hq; omega, T6⟩
end Go.Proofs.Ytljolldacpkeeaa
