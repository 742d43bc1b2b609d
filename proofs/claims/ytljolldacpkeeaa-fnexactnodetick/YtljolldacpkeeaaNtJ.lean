/- spec.l10Elect, walked. (Written by py/ntj.py.) -/
import Derived.Test.YtljolldacpkeeaaNtI
import Derived.Test.YtljolldacpkeeaaNtF
namespace Go.Proofs.Ytljolldacpkeeaa
open Go.ChangeShapes Go.WideShapes Go.ChangeAt Go.RowKit Go.Deep
set_option linter.unusedVariables false
set_option linter.unusedSimpArgs false

/-- A node and messages come out, of the caller's own memory, apart. -/
def ElAns (B : Nat) (n : NoD) (ms : List MV) (w : World) (e : Ending) (w' : World) : Prop :=
  ∃ la lc sa sc va vc na nc ma mc mv l, e = .returned (.tuple #[.agg #[.int .i64 n.id, .int .i64 n.tm, .int .i64 n.vo, .slice la n.lg.length lc, .slice sa n.st.length sc, .int .i64 n.ro, .slice va n.vs.length vc, .slice na n.nx.length nc, .slice ma n.mt.length mc, .int .i64 n.cm, .int .i64 n.el, .int .i64 n.wt, .bool n.up], mv]) ∧ NoO B w' (.slice la n.lg.length lc) (.slice sa n.st.length sc) (.slice va n.vs.length vc) (.slice na n.nx.length nc) (.slice ma n.mt.length mc) n.lg n.st n.vs n.nx n.mt ∧ Ns mgS B w' mv l.length l ∧ l.map bareM = ms ∧ (∀ q, NoT [.slice la n.lg.length lc, .slice sa n.st.length sc, .slice va n.vs.length vc, .slice na n.nx.length nc, .slice ma n.mt.length mc] q → ¬ NsT mgS mv l q) ∧ Touch (fun q => B ≤ q) w w'
set_option maxRecDepth 100000 in
set_option maxHeartbeats 4000000 in
theorem l10Elect_any (B : Nat) (id tm vo ro cm el wt : Int) (up : Bool) (lg : List En) (st vs nx mt : List Int) (la : Option Addr) (lc : Nat) (sa : Option Addr) (sc : Nat) (va : Option Addr) (vc : Nat) (g nc h mc : Nat) (draw : Int) (w : World) (hO : NoO B w (.slice la lg.length lc) (.slice sa st.length sc) (.slice va vs.length vc) (.slice (some ⟨g, 0, none⟩) 7 nc) (.slice (some ⟨h, 0, none⟩) 7 mc) lg st vs nx mt) (hB : B ≤ w.heap.size) (hz : ∀ i, (lg.getD i default).d.size ≤ 1048576) (hl : lg.length ≤ 60) (hg : CfgOK lg) (hst : mFault st = 0) (hnx : nx.length = 7) (hmt : mt.length = 7) (hc : 0 ≤ cm) (htm : 0 ≤ tm ∧ tm < 1000000) (hdr : 0 ≤ draw ∧ draw ≤ 1000000) :
    Calls Try.prog 45 #[.agg #[.int .i64 id, .int .i64 tm, .int .i64 vo, .slice la lg.length lc, .slice sa st.length sc, .int .i64 ro, .slice va vs.length vc, .slice (some ⟨g, 0, none⟩) 7 nc, .slice (some ⟨h, 0, none⟩) 7 mc, .int .i64 cm, .int .i64 el, .int .i64 wt, .bool up], .int .i64 draw] w fun e w' => ElAns B (standOut (⟨id, tm, vo, ro, cm, el, wt, up, lg, st, vs, nx, mt⟩ : NoD) draw).1 (standOut (⟨id, tm, vo, ro, cm, el, wt, up, lg, st, vs, nx, mt⟩ : NoD) draw).2 w e w' := by
  obtain ⟨i1, hj, hy0, hy1, hy2⟩ := info_parts infoMsg
  have B0 := hide (((Below.refl w.heap.size w).alloc (Nat.le_refl _) (.cells #[.int .i64 id, .int .i64 tm, .int .i64 vo, .slice la lg.length lc, .slice sa st.length sc, .int .i64 ro, .slice va vs.length vc, .slice (some ⟨g, 0, none⟩) 7 nc, .slice (some ⟨h, 0, none⟩) 7 mc, .int .i64 cm, .int .i64 el, .int .i64 wt, .bool up] 29)).alloc (by simp) (.cells #[.int .i64 0, .int .i64 0, .int .i64 0, .slice none 0 0, .slice none 0 0, .int .i64 0, .slice none 0 0, .slice none 0 0, .slice none 0 0, .int .i64 0, .int .i64 0, .int .i64 0, .bool false] 29))
  have X0 := hide ((Blk.new w #[.int .i64 id, .int .i64 tm, .int .i64 vo, .slice la lg.length lc, .slice sa st.length sc, .int .i64 ro, .slice va vs.length vc, .slice (some ⟨g, 0, none⟩) 7 nc, .slice (some ⟨h, 0, none⟩) 7 mc, .int .i64 cm, .int .i64 el, .int .i64 wt, .bool up] 29 w.heap.size rfl).alloc (.cells #[.int .i64 0, .int .i64 0, .int .i64 0, .slice none 0 0, .slice none 0 0, .int .i64 0, .slice none 0 0, .slice none 0 0, .slice none 0 0, .int .i64 0, .int .i64 0, .int .i64 0, .bool false] 29))
  have R0 := hide (Blk.new (w.alloc (.cells #[.int .i64 id, .int .i64 tm, .int .i64 vo, .slice la lg.length lc, .slice sa st.length sc, .int .i64 ro, .slice va vs.length vc, .slice (some ⟨g, 0, none⟩) 7 nc, .slice (some ⟨h, 0, none⟩) 7 mc, .int .i64 cm, .int .i64 el, .int .i64 wt, .bool up] 29)) #[.int .i64 0, .int .i64 0, .int .i64 0, .slice none 0 0, .slice none 0 0, .int .i64 0, .slice none 0 0, .slice none 0 0, .slice none 0 0, .int .i64 0, .int .i64 0, .int .i64 0, .bool false] 29 (w.heap.size + 1) (by simp))
  have HBL := hide (NoO.blk hO)
  have HO := hide hO
  have q1 : IntKind.i64.wrap (tm + 1) = tm + 1 := wrapSm _ (by omega) (by omega)
  have hd0 : 0 ≤ draw % 8 := by omega
  have hd1 : draw % 8 < 8 := by omega
  have q2 : IntKind.i64.wrap (draw % 8) = draw % 8 := wrapSm _ hd0 (by omega)
  have q3 : IntKind.i64.wrap (5 + draw % 8) = 5 + draw % 8 := wrapSm _ (by omega) (by omega)
  have hmb := mb_seven lg st hg hst
  have HS := hide (And.intro hz (And.intro hl (And.intro hg (And.intro hst (And.intro hnx (And.intro hmt (And.intro hc hmb)))))))
  clear hO hz hg hst hnx hmt hc hmb
  go_enter Try.func45, Try.ntmps45
  go_upto_region 1 with fail
  generalize (w.alloc (.cells #[.int .i64 id, .int .i64 tm, .int .i64 vo, .slice la lg.length lc, .slice sa st.length sc, .int .i64 ro, .slice va vs.length vc, .slice (some ⟨g, 0, none⟩) 7 nc, .slice (some ⟨h, 0, none⟩) 7 mc, .int .i64 cm, .int .i64 el, .int .i64 wt, .bool up] 29)).alloc (.cells #[.int .i64 0, .int .i64 0, .int .i64 0, .slice none 0 0, .slice none 0 0, .int .i64 0, .slice none 0 0, .slice none 0 0, .slice none 0 0, .int .i64 0, .int .i64 0, .int .i64 0, .bool false] 29) = w0 at *
  have hrw : w.heap.size + 1 < w0.heap.size := (unhide R0).1
  have x0 := (unhide X0).cell 0 rfl
  have x1 := (unhide X0).cell 1 rfl
  have x2 := (unhide X0).cell 2 rfl
  have x5 := (unhide X0).cell 5 rfl
  have f1 := (unhide X0).fro 1
  have f2 := (unhide X0).fro 2
  have f5 := (unhide X0).fro 5
  have X1 := hide ((((unhide X0).set 1 (.int .i64 (tm + 1)) (by simp)).set 2 (.int .i64 id) (by simp)).set 5 (.int .i64 1) (by simp))
  have T1 := hide ((((Touch.refl (fun q => q = w.heap.size) w0).setCell ⟨w.heap.size, 1, none⟩ (.int .i64 (tm + 1)) (fun _ => rfl)).setCell ⟨w.heap.size, 2, none⟩ (.int .i64 id) (fun _ => rfl)).setCell ⟨w.heap.size, 5, none⟩ (.int .i64 1) (fun _ => rfl))
  simp only [List.set_cons_succ, List.set_cons_zero] at X1
  clear X0
  go_upto_region 4 with fail
  clear x0 x1 x2 x5 f1 f2 f5
  generalize ((w0.setCell ⟨w.heap.size, 1, none⟩ (.int .i64 (tm + 1))).setCell ⟨w.heap.size, 2, none⟩ (.int .i64 id)).setCell ⟨w.heap.size, 5, none⟩ (.int .i64 1) = w1 at *
  have hs1 := (unhide T1).size
  have x0 := (unhide X1).cell 0 rfl
  have x6 := (unhide X1).cell 6 rfl
  have f6 := (unhide X1).fro 6
  have hX1 := (unhide X1).1
  have X2 := hide ((unhide X1).set 6 (.slice (some ⟨w1.heap.size, 0, none⟩) 1 1) (by simp))
  have T2 := (unhide T1).setCell ⟨w.heap.size, 6, none⟩ (.slice (some ⟨w1.heap.size, 0, none⟩) 1 1) (fun _ => rfl)
  simp only [List.set_cons_succ, List.set_cons_zero] at X2
  have hsz : (w1.setCell ⟨w.heap.size, 6, none⟩ (.slice (some ⟨w1.heap.size, 0, none⟩) 1 1)).heap.size = w1.heap.size := by simp only [World.size_setCell]
  have HT2 := hide T2
  clear T2 X1
  go_upto_region 5 with fail
  clear x0 x6 f6
  generalize w1.setCell ⟨w.heap.size, 6, none⟩ (.slice (some ⟨w1.heap.size, 0, none⟩) 1 1) = wa at *
  have K2 := hide ((unhide B0).trans ((unhide HT2).below (unhide B0).size (fun q hq e => by omega)))
  have OA := ((unhide HO).below (unhide B0)).keep (unhide HT2) (fun q hq e => by have := (unhide HBL q hq).2; omega)
  have BA := (Below.refl wa.heap.size wa).alloc (Nat.le_refl _) (.cells #[.int .i64 id] 3)
  have hkb := (unhide K2).size
  have O3 := hide (NoO.votes OA BA (own_one wa id wa.heap.size (Nat.le_refl _)) (by omega))
  have X3 := hide ((unhide X2).below BA)
  have R3 := hide (((unhide R0).kept (unhide HT2) (fun e => by omega)).below BA)
  have K3 := hide ((unhide K2).trans (BA.mono (unhide K2).size))
  rw [hsz] at O3
  obtain ⟨nb, hnb⟩ : ∃ nb, nb = w1.heap.size := ⟨_, rfl⟩
  have hnw : w.heap.size + 1 < nb := by omega
  rw [← hnb] at O3 X3
  clear OA BA X2 R0 HT2 T1 hsz hs1 K2
  generalize wa.alloc (.cells #[.int .i64 id] 3) = w3 at *
  have hnL : nb < w3.heap.size := (NoO.blk (unhide O3) nb ⟨.slice (some ⟨nb, 0, none⟩) 1 1, by simp, rfl⟩).2
  rw [← hnb]
  clear hnb hkb
  have x10 := (unhide X3).cell 10 rfl
  have x11 := (unhide X3).cell 11 rfl
  have f10 := (unhide X3).fro 10
  have f11 := (unhide X3).fro 11
  have X4 := hide (((unhide X3).set 10 (.int .i64 0) (by simp)).set 11 (.int .i64 (5 + draw % 8)) (by simp))
  have T34 := ((Touch.refl (fun q => q = w.heap.size) w3).setCell ⟨w.heap.size, 10, none⟩ (.int .i64 0) (fun _ => rfl)).setCell ⟨w.heap.size, 11, none⟩ (.int .i64 (5 + draw % 8)) (fun _ => rfl)
  have hap : ∀ q, NoT [.slice la lg.length lc, .slice sa st.length sc, .slice (some ⟨nb, 0, none⟩) 1 1, .slice (some ⟨g, 0, none⟩) 7 nc, .slice (some ⟨h, 0, none⟩) 7 mc] q → q ≠ w.heap.size ∧ q ≠ w.heap.size + 1 := fun q hq => by
    obtain ⟨v, hv, hvq⟩ := hq
    simp only [List.mem_cons, List.not_mem_nil, or_false] at hv
    rcases hv with rfl | rfl | rfl | rfl | rfl
    · have := (unhide HBL q ⟨_, by simp, hvq⟩).2; omega
    · have := (unhide HBL q ⟨_, by simp, hvq⟩).2; omega
    · simp [Value.ownBlock] at hvq; omega
    · have := (unhide HBL q ⟨_, by simp, hvq⟩).2; omega
    · have := (unhide HBL q ⟨_, by simp, hvq⟩).2; omega
  have O4 := hide (NoO.keep (unhide O3) T34 (fun q hq => (hap q hq).1))
  have R4 := hide ((unhide R3).kept T34 (fun e => by omega))
  have K4 := hide ((unhide K3).trans (T34.below (unhide K3).size (fun q hq e => by omega)))
  have HAP := hide hap
  simp only [List.set_cons_succ, List.set_cons_zero] at X4
  clear T34 hap X3 O3 R3 K3
  go_upto_region 7 with fail
  clear x10 x11 f10 f11
  generalize (w3.setCell ⟨w.heap.size, 10, none⟩ (.int .i64 0)).setCell ⟨w.heap.size, 11, none⟩ (.int .i64 (5 + draw % 8)) = w4 at *
  obtain ⟨hz, hl, hg, hst, hnx, hmt, hc, hmb⟩ := unhide HS
  have HMem := hide (l10Members_any id (tm + 1) id 1 cm 0 (5 + draw % 8) up lg st [id] nx mt la lc sa sc (some ⟨nb, 0, none⟩) 1 (some ⟨g, 0, none⟩) nc (some ⟨h, 0, none⟩) mc w4 (unhide O4).lg.ens (unhide O4).st.ints hz (by omega) hg)
  have HTe := hide (fun wx (hE : Ens wx (.slice la lg.length lc) lg) => l10Term_any id (tm + 1) id 1 cm 0 (5 + draw % 8) up lg st [id] nx mt la lc sa sc (some ⟨nb, 0, none⟩) 1 (some ⟨g, 0, none⟩) nc (some ⟨h, 0, none⟩) mc lg.length wx hE (Nat.le_refl _) (by omega))
  have HLd := hide (fun wx (o : NoO B wx (.slice la lg.length lc) (.slice sa st.length sc) (.slice (some ⟨nb, 0, none⟩) 1 1) (.slice (some ⟨g, 0, none⟩) 7 nc) (.slice (some ⟨h, 0, none⟩) 7 mc) lg st [id] nx mt) (hBx : B ≤ wx.heap.size) => l10Lead_any B id (tm + 1) id 1 cm 0 (5 + draw % 8) up lg st [id] nx mt la lc sa sc (some ⟨nb, 0, none⟩) 1 g nc h mc wx o hBx hz hl hg hst hnx hmt hc)
  rw [hnx, hmt] at HMem HTe
  have HNL := hide (And.intro hnx hmt)
  have hmbl := hmb.1
  have HIN := hide hmb.2
  clear hz hg hst hnx hmt hc hmb HS
  have HU : Hid (standOut (⟨id, tm, vo, ro, cm, el, wt, up, lg, st, vs, nx, mt⟩ : NoD) draw = if mostB (fun x => decide (x ∈ [id])) (mbAt lg st lg.length) then leadOut (⟨id, tm + 1, id, 1, cm, 0, 5 + draw % 8, up, lg, st, [id], nx, mt⟩ : NoD) else ((⟨id, tm + 1, id, 1, cm, 0, 5 + draw % 8, up, lg, st, [id], nx, mt⟩ : NoD), pleaL id (tm + 1) lg (mbAt lg st lg.length))) := hide rfl
  generalize mbAt lg st lg.length = mb at *
  have x0 := (unhide X4).cell 0 rfl
  have x1 := (unhide X4).cell 1 rfl
  have x2 := (unhide X4).cell 2 rfl
  have x3 := (unhide X4).cell 3 rfl
  have x4 := (unhide X4).cell 4 rfl
  have x5 := (unhide X4).cell 5 rfl
  have x6 := (unhide X4).cell 6 rfl
  have x7 := (unhide X4).cell 7 rfl
  have x8 := (unhide X4).cell 8 rfl
  have x9 := (unhide X4).cell 9 rfl
  have x10 := (unhide X4).cell 10 rfl
  have x11 := (unhide X4).cell 11 rfl
  have x12 := (unhide X4).cell 12 rfl
  go_wp2_with fail
  refine (unhide HMem).mono ?_
  rintro e w5 ⟨lv, rfl, hlv, hb5⟩
  have X5 := hide ((unhide X4).below hb5)
  have O5 := hide ((unhide O4).below hb5)
  have R5 := hide ((unhide R4).below hb5)
  have K5 := hide ((unhide K4).trans (hb5.mono (unhide K4).size))
  have hk5 := (unhide K5).size
  have hx5 : w.heap.size < w5.heap.size := (unhide X5).1
  have hr5 : w.heap.size + 1 < w5.heap.size := (unhide R5).1
  have HMo := hide (l10Most_any (.slice (some ⟨nb, 0, none⟩) 1 1) lv [id] mb w5 (unhide O5).vs.ints hlv (by simp) (by omega))
  obtain ⟨av, cv, elv, hmv, hcv⟩ := hlv
  subst elv
  have HCV := hide hcv
  clear hcv hmv hb5 HMem X4 O4 R4 K4 x0 x1 x2 x3 x4 x5 x6 x7 x8 x9 x10 x11 x12
  generalize mostB (fun x => decide (x ∈ [id])) mb = bo at *
  have x6 := (unhide X5).cell 6 rfl
  go_wp2_with fail
  refine (unhide HMo).mono ?_
  rintro e w' ⟨rfl, hw'⟩
  have hw2 := hw'.symm
  clear hw' HMo x6
  subst hw2
  cases bo
  · clear HLd
    have N0 := hide (show Ns mgS w5.heap.size (w5.alloc (.cells #[] 59)) (.slice (some ⟨w5.heap.size, 0, none⟩) 0 0) 0 [] from ns_made mgS w5 w5.heap.size (Nat.le_refl _))
    have BE := hide ((Below.refl w5.heap.size w5).alloc (Nat.le_refl _) (.cells #[] 59))
    go_wp2_with fail
    generalize w5.alloc (.cells #[] 59) = we at *
    go_loopw [7, 8] (fun vv i wr => ∃ (k : Nat) (l : List MV) (u : Value), u = vv ∧ k ≤ mb.length ∧ i = .int .i64 (k : Int) ∧ l.length ≤ k ∧ Hid (Ns mgS w5.heap.size wr u l.length l) ∧ Hid (l.map bareM = pleaL id (tm + 1) lg (mb.take k)) ∧ Hid (Below w5.heap.size w5 wr)) (fun _ i _ => mb.length - (intOf i).toNat)
    case atStart => exact ⟨0, [], _, rfl, Nat.zero_le _, rfl, Nat.le_refl _, N0, hide rfl, BE⟩
    case round =>
      obtain ⟨k, l, u, rfl, hk, rfl, hlk, NR, LR, BR⟩ := hrel
      have hrs := (unhide BR).size
      by_cases hlt : k < mb.length
      · obtain ⟨bq, off, rfl, hbl, hsrc⟩ : ∃ b off, av = some ⟨b, off, none⟩ ∧ b < w5.heap.size ∧ ∀ i, i < mb.length → w5.cell? ⟨b, off + i, none⟩ = some (.int .i64 (mb.getD i 0)) := by
          rcases unhide HCV with h0 | h1
          · omega
          · exact h1
        have c0 := ((unhide BR).cell (p := ⟨bq, off + k, none⟩) hbl).trans (hsrc k hlt)
        have hdk := unhide HIN (mb.getD k 0) (by rw [List.getD_eq_getElem?_getD, List.getElem?_eq_getElem hlt]; simp)
        have HSk := hide (pleaL_skip id (tm + 1) lg mb k hlt)
        have HNe := hide (pleaL_next id (tm + 1) lg mb k hlt)
        clear hsrc
        generalize mb.getD k 0 = z at *
        obtain ⟨hz0_, hz7⟩ := hdk
        obtain ⟨d, rfl⟩ : ∃ d : Nat, z = (d : Int) := ⟨z.toNat, by omega⟩
        have p0 : (0 : Int) ≤ (k : Int) := by omega
        have p1 : (k : Int) < (mb.length : Int) := by omega
        have p2 : IntKind.i64.wrap ((k : Int) + 1) = (k : Int) + 1 := wrapSm _ (by omega) (by omega)
        have XR := (unhide X5).below (unhide BR)
        have x0 := XR.cell 0 rfl
        have x1 := XR.cell 1 rfl
        have x2 := XR.cell 2 rfl
        have x3 := XR.cell 3 rfl
        have x4 := XR.cell 4 rfl
        have x5 := XR.cell 5 rfl
        have x6 := XR.cell 6 rfl
        have x7 := XR.cell 7 rfl
        have x8 := XR.cell 8 rfl
        have x9 := XR.cell 9 rfl
        have x10 := XR.cell 10 rfl
        have x11 := XR.cell 11 rfl
        have x12 := XR.cell 12 rfl
        clear XR
        have HBq := hide (below_drewN (unhide BR) 1)
        have HNq := hide ((unhide NR).kept (T := fun _ => False) ((Touch.refl (fun _ => False) wr).drewN 1) (fun _ e => e.elim))
        change Hid (Below w5.heap.size w5 wr.drew) at HBq
        change Hid (Ns mgS _ wr.drew _ _ _) at HNq
        have hsq : w5.heap.size ≤ wr.drew.heap.size := hrs
        by_cases hdi : (d : Int) = id
        · have HS2 := hide (unhide HSk hdi)
          have q5 : id = (d : Int) := hdi.symm
          clear HNe HSk hdi
          subst q5
          go_wp2_with fail
          refine wp_region_noPanic ?_
          refine wp_region_held_drew (S := (fun wx => wx.cell? ⟨bq, off + k, none⟩ = some (.int .i64 (d : Int)) ∧ wx.cell? ⟨w.heap.size, 0, none⟩ = some (.int .i64 (d : Int)) ∧ wx.cell? ⟨w.heap.size, 1, none⟩ = some (.int .i64 (tm + 1)) ∧ wx.cell? ⟨w.heap.size, 2, none⟩ = some (.int .i64 (d : Int)) ∧ wx.cell? ⟨w.heap.size, 3, none⟩ = some (.slice la lg.length lc) ∧ wx.cell? ⟨w.heap.size, 4, none⟩ = some (.slice sa st.length sc) ∧ wx.cell? ⟨w.heap.size, 5, none⟩ = some (.int .i64 1) ∧ wx.cell? ⟨w.heap.size, 6, none⟩ = some (.slice (some ⟨nb, 0, none⟩) 1 1) ∧ wx.cell? ⟨w.heap.size, 7, none⟩ = some (.slice (some ⟨g, 0, none⟩) 7 nc) ∧ wx.cell? ⟨w.heap.size, 8, none⟩ = some (.slice (some ⟨h, 0, none⟩) 7 mc) ∧ wx.cell? ⟨w.heap.size, 9, none⟩ = some (.int .i64 cm) ∧ wx.cell? ⟨w.heap.size, 10, none⟩ = some (.int .i64 0) ∧ wx.cell? ⟨w.heap.size, 11, none⟩ = some (.int .i64 (5 + draw % 8)) ∧ wx.cell? ⟨w.heap.size, 12, none⟩ = some (.bool up))) (by kernel_rfl) ?_ (fun hHeld => ?_)
          · exact ⟨c0, x0, x1, x2, x3, x4, x5, x6, x7, x8, x9, x10, x11, x12⟩
          refine wpAnyH_take (i := 0) (oi := _) (v := ?_) rfl (by kernel_rfl) (by kernel_rfl) (by kernel_rfl) (fun _ _ _ h => h) (Or.inl ⟨by rfl, ?_⟩) (by assumption) ?_
          rotate_left 1
          · (intro wq hSw; (try dsimp only at hSw); (try simp only [List.getElem_toArray, List.getElem_cons_succ, List.getElem_cons_zero]); go_simp; try with_reducible rfl)
          (try simp only [Act.put, List.getElem_toArray, List.getElem_cons_succ, List.getElem_cons_zero, List.setIfInBounds_toArray, List.set_cons_zero, List.set_cons_succ])
          refine wpAnyH_take (i := 1) (oi := _) (v := ?_) rfl (by kernel_rfl) (by kernel_rfl) (by kernel_rfl) (fun _ _ _ h => h) (Or.inl ⟨by rfl, ?_⟩) (by assumption) ?_
          rotate_left 1
          · (intro wq hSw; (try dsimp only at hSw); (try simp only [List.getElem_toArray, List.getElem_cons_succ, List.getElem_cons_zero]); go_simp; try with_reducible rfl)
          (try simp only [Act.put, List.getElem_toArray, List.getElem_cons_succ, List.getElem_cons_zero, List.setIfInBounds_toArray, List.set_cons_zero, List.set_cons_succ])
          refine wpAnyH_take (i := 2) (oi := _) (v := ?_) rfl (by kernel_rfl) (by kernel_rfl) (by kernel_rfl) (fun _ _ _ h => h) (Or.inl ⟨by rfl, ?_⟩) (by assumption) ?_
          rotate_left 1
          · (intro wq hSw; (try dsimp only at hSw); (try simp only [List.getElem_toArray, List.getElem_cons_succ, List.getElem_cons_zero]); go_simp; try with_reducible rfl)
          (try simp only [Act.put, List.getElem_toArray, List.getElem_cons_succ, List.getElem_cons_zero, List.setIfInBounds_toArray, List.set_cons_zero, List.set_cons_succ])
          refine wpAnyH_take (i := 3) (oi := _) (v := ?_) rfl (by kernel_rfl) (by kernel_rfl) (by kernel_rfl) (fun _ _ _ h => h) (Or.inl ⟨by rfl, ?_⟩) (by assumption) ?_
          rotate_left 1
          · (intro wq hSw; (try dsimp only at hSw); (try simp only [List.getElem_toArray, List.getElem_cons_succ, List.getElem_cons_zero]); go_simp; try with_reducible rfl)
          (try simp only [Act.put, List.getElem_toArray, List.getElem_cons_succ, List.getElem_cons_zero, List.setIfInBounds_toArray, List.set_cons_zero, List.set_cons_succ])
          refine wpAnyH_take (i := 4) (oi := _) (v := ?_) rfl (by kernel_rfl) (by kernel_rfl) (by kernel_rfl) (fun _ _ _ h => h) (Or.inl ⟨by rfl, ?_⟩) (by assumption) ?_
          rotate_left 1
          · (intro wq hSw; (try dsimp only at hSw); (try simp only [List.getElem_toArray, List.getElem_cons_succ, List.getElem_cons_zero]); go_simp; try with_reducible rfl)
          (try simp only [Act.put, List.getElem_toArray, List.getElem_cons_succ, List.getElem_cons_zero, List.setIfInBounds_toArray, List.set_cons_zero, List.set_cons_succ])
          refine wpAnyH_take (i := 5) (oi := _) (v := ?_) rfl (by kernel_rfl) (by kernel_rfl) (by kernel_rfl) (fun _ _ _ h => h) (Or.inl ⟨by rfl, ?_⟩) (by assumption) ?_
          rotate_left 1
          · (intro wq hSw; (try dsimp only at hSw); (try simp only [List.getElem_toArray, List.getElem_cons_succ, List.getElem_cons_zero]); go_simp; try with_reducible rfl)
          (try simp only [Act.put, List.getElem_toArray, List.getElem_cons_succ, List.getElem_cons_zero, List.setIfInBounds_toArray, List.set_cons_zero, List.set_cons_succ])
          refine wpAnyH_take (i := 6) (oi := _) (v := ?_) rfl (by kernel_rfl) (by kernel_rfl) (by kernel_rfl) (fun _ _ _ h => h) (Or.inl ⟨by rfl, ?_⟩) (by assumption) ?_
          rotate_left 1
          · (intro wq hSw; (try dsimp only at hSw); (try simp only [List.getElem_toArray, List.getElem_cons_succ, List.getElem_cons_zero]); go_simp; try with_reducible rfl)
          (try simp only [Act.put, List.getElem_toArray, List.getElem_cons_succ, List.getElem_cons_zero, List.setIfInBounds_toArray, List.set_cons_zero, List.set_cons_succ])
          refine wpAnyH_done (by kernel_rfl) (NoPanic.normal ?_) _
          go_wp2_with fail
          refine ⟨⟨k + 1, l, u, rfl, by omega, by go_num, by omega, HNq, hide (by rw [unhide HS2]; exact unhide LR), HBq⟩, ?_⟩
          simp [intOf] <;> omega
        · have HN2 := hide (unhide HNe hdi)
          have h3 : decide ((d : Int) = id) = false := decide_eq_false hdi
          have h4 : ((d : Int) == id) = false := by rw [beq_eq_false_iff_ne]; exact hdi
          have h5 : ((d : Int) != id) = true := by simp [bne, h4]
          clear HNe HSk
          go_wp2_with fail
          refine wp_region_noPanic ?_
          refine wp_region_held_drew (S := (fun wx => wx.cell? ⟨bq, off + k, none⟩ = some (.int .i64 (d : Int)) ∧ wx.cell? ⟨w.heap.size, 0, none⟩ = some (.int .i64 id) ∧ wx.cell? ⟨w.heap.size, 1, none⟩ = some (.int .i64 (tm + 1)) ∧ wx.cell? ⟨w.heap.size, 2, none⟩ = some (.int .i64 id) ∧ wx.cell? ⟨w.heap.size, 3, none⟩ = some (.slice la lg.length lc) ∧ wx.cell? ⟨w.heap.size, 4, none⟩ = some (.slice sa st.length sc) ∧ wx.cell? ⟨w.heap.size, 5, none⟩ = some (.int .i64 1) ∧ wx.cell? ⟨w.heap.size, 6, none⟩ = some (.slice (some ⟨nb, 0, none⟩) 1 1) ∧ wx.cell? ⟨w.heap.size, 7, none⟩ = some (.slice (some ⟨g, 0, none⟩) 7 nc) ∧ wx.cell? ⟨w.heap.size, 8, none⟩ = some (.slice (some ⟨h, 0, none⟩) 7 mc) ∧ wx.cell? ⟨w.heap.size, 9, none⟩ = some (.int .i64 cm) ∧ wx.cell? ⟨w.heap.size, 10, none⟩ = some (.int .i64 0) ∧ wx.cell? ⟨w.heap.size, 11, none⟩ = some (.int .i64 (5 + draw % 8)) ∧ wx.cell? ⟨w.heap.size, 12, none⟩ = some (.bool up))) (by kernel_rfl) ?_ (fun hHeld => ?_)
          · exact ⟨c0, x0, x1, x2, x3, x4, x5, x6, x7, x8, x9, x10, x11, x12⟩
          refine wpAnyH_take (i := 0) (oi := _) (v := ?_) rfl (by kernel_rfl) (by kernel_rfl) (by kernel_rfl) (fun _ _ _ h => h) (Or.inl ⟨by rfl, ?_⟩) (by assumption) ?_
          rotate_left 1
          · (intro wq hSw; (try dsimp only at hSw); (try simp only [List.getElem_toArray, List.getElem_cons_succ, List.getElem_cons_zero]); go_simp; try with_reducible rfl)
          (try simp only [Act.put, List.getElem_toArray, List.getElem_cons_succ, List.getElem_cons_zero, List.setIfInBounds_toArray, List.set_cons_zero, List.set_cons_succ])
          refine wpAnyH_take (i := 1) (oi := _) (v := ?_) rfl (by kernel_rfl) (by kernel_rfl) (by kernel_rfl) (fun _ _ _ h => h) (Or.inl ⟨by rfl, ?_⟩) (by assumption) ?_
          rotate_left 1
          · (intro wq hSw; (try dsimp only at hSw); (try simp only [List.getElem_toArray, List.getElem_cons_succ, List.getElem_cons_zero]); go_simp; try with_reducible rfl)
          (try simp only [Act.put, List.getElem_toArray, List.getElem_cons_succ, List.getElem_cons_zero, List.setIfInBounds_toArray, List.set_cons_zero, List.set_cons_succ])
          refine wpAnyH_take (i := 2) (oi := _) (v := ?_) rfl (by kernel_rfl) (by kernel_rfl) (by kernel_rfl) (fun _ _ _ h => h) (Or.inl ⟨by rfl, ?_⟩) (by assumption) ?_
          rotate_left 1
          · (intro wq hSw; (try dsimp only at hSw); (try simp only [List.getElem_toArray, List.getElem_cons_succ, List.getElem_cons_zero]); go_simp; try with_reducible rfl)
          (try simp only [Act.put, List.getElem_toArray, List.getElem_cons_succ, List.getElem_cons_zero, List.setIfInBounds_toArray, List.set_cons_zero, List.set_cons_succ])
          refine wpAnyH_take (i := 3) (oi := _) (v := ?_) rfl (by kernel_rfl) (by kernel_rfl) (by kernel_rfl) (fun _ _ _ h => h) (Or.inl ⟨by rfl, ?_⟩) (by assumption) ?_
          rotate_left 1
          · (intro wq hSw; (try dsimp only at hSw); (try simp only [List.getElem_toArray, List.getElem_cons_succ, List.getElem_cons_zero]); go_simp; try with_reducible rfl)
          (try simp only [Act.put, List.getElem_toArray, List.getElem_cons_succ, List.getElem_cons_zero, List.setIfInBounds_toArray, List.set_cons_zero, List.set_cons_succ])
          refine wpAnyH_take (i := 4) (oi := _) (v := ?_) rfl (by kernel_rfl) (by kernel_rfl) (by kernel_rfl) (fun _ _ _ h => h) (Or.inl ⟨by rfl, ?_⟩) (by assumption) ?_
          rotate_left 1
          · (intro wq hSw; (try dsimp only at hSw); (try simp only [List.getElem_toArray, List.getElem_cons_succ, List.getElem_cons_zero]); go_simp; try with_reducible rfl)
          (try simp only [Act.put, List.getElem_toArray, List.getElem_cons_succ, List.getElem_cons_zero, List.setIfInBounds_toArray, List.set_cons_zero, List.set_cons_succ])
          refine wpAnyH_take (i := 5) (oi := _) (v := ?_) rfl (by kernel_rfl) (by kernel_rfl) (by kernel_rfl) (fun _ _ _ h => h) (Or.inl ⟨by rfl, ?_⟩) (by assumption) ?_
          rotate_left 1
          · (intro wq hSw; (try dsimp only at hSw); (try simp only [List.getElem_toArray, List.getElem_cons_succ, List.getElem_cons_zero]); go_simp; try with_reducible rfl)
          (try simp only [Act.put, List.getElem_toArray, List.getElem_cons_succ, List.getElem_cons_zero, List.setIfInBounds_toArray, List.set_cons_zero, List.set_cons_succ])
          refine wpAnyH_take (i := 6) (oi := _) (v := ?_) rfl (by kernel_rfl) (by kernel_rfl) (by kernel_rfl) (fun _ _ _ h => h) (Or.inl ⟨by rfl, ?_⟩) (by assumption) ?_
          rotate_left 1
          · (intro wq hSw; (try dsimp only at hSw); (try simp only [List.getElem_toArray, List.getElem_cons_succ, List.getElem_cons_zero]); go_simp; try with_reducible rfl)
          (try simp only [Act.put, List.getElem_toArray, List.getElem_cons_succ, List.getElem_cons_zero, List.setIfInBounds_toArray, List.set_cons_zero, List.set_cons_succ])
          have c0d : wr.drew.cell? ⟨bq, off + k, none⟩ = some (.int .i64 (d : Int)) := c0
          have hrq : w5.heap.size ≤ wr.drew.heap.size := hrs
          clear x0 x1 x2 x3 x4 x5 x6 x7 x8 x9 x10 x11 x12 c0 NR BR hrs
          generalize wr.drew = wq at *
          have c0 := c0d
          have XR := (unhide X5).below (unhide HBq)
          have x0 := XR.cell 0 rfl
          have x1 := XR.cell 1 rfl
          have x2 := XR.cell 2 rfl
          have x3 := XR.cell 3 rfl
          have x4 := XR.cell 4 rfl
          have x5 := XR.cell 5 rfl
          have x6 := XR.cell 6 rfl
          have x7 := XR.cell 7 rfl
          have x8 := XR.cell 8 rfl
          have x9 := XR.cell 9 rfl
          have x10 := XR.cell 10 rfl
          have x11 := XR.cell 11 rfl
          have x12 := XR.cell 12 rfl
          clear XR c0d
          have HBz := hide (below_drewN (unhide HBq) 1)
          have HNz := hide ((unhide HNq).kept (T := fun _ => False) ((Touch.refl (fun _ => False) wq).drewN 1) (fun _ e => e.elim))
          change Hid (Below w5.heap.size w5 wq.drew) at HBz
          change Hid (Ns mgS _ wq.drew _ _ _) at HNz
          have c0d : wq.drew.cell? ⟨bq, off + k, none⟩ = some (.int .i64 (d : Int)) := c0
          have hrz : w5.heap.size ≤ wq.drew.heap.size := hrq
          refine wpAnyH_done (by kernel_rfl) (NoPanic.normal ?_) _
          go_wp2_with fail
          refine wp_region_noPanic ?_
          refine wp_region_held_drew (S := (fun wx => wx.cell? ⟨bq, off + k, none⟩ = some (.int .i64 (d : Int)) ∧ wx.cell? ⟨w.heap.size, 0, none⟩ = some (.int .i64 id) ∧ wx.cell? ⟨w.heap.size, 1, none⟩ = some (.int .i64 (tm + 1)) ∧ wx.cell? ⟨w.heap.size, 2, none⟩ = some (.int .i64 id) ∧ wx.cell? ⟨w.heap.size, 3, none⟩ = some (.slice la lg.length lc) ∧ wx.cell? ⟨w.heap.size, 4, none⟩ = some (.slice sa st.length sc) ∧ wx.cell? ⟨w.heap.size, 5, none⟩ = some (.int .i64 1) ∧ wx.cell? ⟨w.heap.size, 6, none⟩ = some (.slice (some ⟨nb, 0, none⟩) 1 1) ∧ wx.cell? ⟨w.heap.size, 7, none⟩ = some (.slice (some ⟨g, 0, none⟩) 7 nc) ∧ wx.cell? ⟨w.heap.size, 8, none⟩ = some (.slice (some ⟨h, 0, none⟩) 7 mc) ∧ wx.cell? ⟨w.heap.size, 9, none⟩ = some (.int .i64 cm) ∧ wx.cell? ⟨w.heap.size, 10, none⟩ = some (.int .i64 0) ∧ wx.cell? ⟨w.heap.size, 11, none⟩ = some (.int .i64 (5 + draw % 8)) ∧ wx.cell? ⟨w.heap.size, 12, none⟩ = some (.bool up))) (by kernel_rfl) ?_ (fun hHeld => ?_)
          · exact ⟨c0, x0, x1, x2, x3, x4, x5, x6, x7, x8, x9, x10, x11, x12⟩
          refine wpAnyH_take (i := 0) (oi := _) (v := ?_) rfl (by kernel_rfl) (by kernel_rfl) (by kernel_rfl) (fun _ _ _ h => h) (Or.inl ⟨by rfl, ?_⟩) (by assumption) ?_
          rotate_left 1
          · (intro wq hSw; (try dsimp only at hSw); (try simp only [List.getElem_toArray, List.getElem_cons_succ, List.getElem_cons_zero]); go_simp; try with_reducible rfl)
          (try simp only [Act.put, List.getElem_toArray, List.getElem_cons_succ, List.getElem_cons_zero, List.setIfInBounds_toArray, List.set_cons_zero, List.set_cons_succ])
          refine wpAnyH_take (i := 1) (oi := _) (v := ?_) rfl (by kernel_rfl) (by kernel_rfl) (by kernel_rfl) (fun _ _ _ h => h) (Or.inl ⟨by rfl, ?_⟩) (by assumption) ?_
          rotate_left 1
          · (intro wq hSw; (try dsimp only at hSw); (try simp only [List.getElem_toArray, List.getElem_cons_succ, List.getElem_cons_zero]); go_simp; try with_reducible rfl)
          (try simp only [Act.put, List.getElem_toArray, List.getElem_cons_succ, List.getElem_cons_zero, List.setIfInBounds_toArray, List.set_cons_zero, List.set_cons_succ])
          refine wpAnyH_take (i := 2) (oi := _) (v := ?_) rfl (by kernel_rfl) (by kernel_rfl) (by kernel_rfl) (fun _ _ _ h => h) (Or.inl ⟨by rfl, ?_⟩) (by assumption) ?_
          rotate_left 1
          · (intro wq hSw; (try dsimp only at hSw); (try simp only [List.getElem_toArray, List.getElem_cons_succ, List.getElem_cons_zero]); go_simp; try with_reducible rfl)
          (try simp only [Act.put, List.getElem_toArray, List.getElem_cons_succ, List.getElem_cons_zero, List.setIfInBounds_toArray, List.set_cons_zero, List.set_cons_succ])
          refine wpAnyH_take (i := 3) (oi := _) (v := ?_) rfl (by kernel_rfl) (by kernel_rfl) (by kernel_rfl) (fun _ _ _ h => h) (Or.inl ⟨by rfl, ?_⟩) (by assumption) ?_
          rotate_left 1
          · (intro wq hSw; (try dsimp only at hSw); (try simp only [List.getElem_toArray, List.getElem_cons_succ, List.getElem_cons_zero]); go_simp; try with_reducible rfl)
          (try simp only [Act.put, List.getElem_toArray, List.getElem_cons_succ, List.getElem_cons_zero, List.setIfInBounds_toArray, List.set_cons_zero, List.set_cons_succ])
          refine wpAnyH_take (i := 4) (oi := _) (v := ?_) rfl (by kernel_rfl) (by kernel_rfl) (by kernel_rfl) (fun _ _ _ h => h) (Or.inl ⟨by rfl, ?_⟩) (by assumption) ?_
          rotate_left 1
          · (intro wq hSw; (try dsimp only at hSw); (try simp only [List.getElem_toArray, List.getElem_cons_succ, List.getElem_cons_zero]); go_simp; try with_reducible rfl)
          (try simp only [Act.put, List.getElem_toArray, List.getElem_cons_succ, List.getElem_cons_zero, List.setIfInBounds_toArray, List.set_cons_zero, List.set_cons_succ])
          refine wpAnyH_take (i := 5) (oi := _) (v := ?_) rfl (by kernel_rfl) (by kernel_rfl) (by kernel_rfl) (fun _ _ _ h => h) (Or.inl ⟨by rfl, ?_⟩) (by assumption) ?_
          rotate_left 1
          · (intro wq hSw; (try dsimp only at hSw); (try simp only [List.getElem_toArray, List.getElem_cons_succ, List.getElem_cons_zero]); go_simp; try with_reducible rfl)
          (try simp only [Act.put, List.getElem_toArray, List.getElem_cons_succ, List.getElem_cons_zero, List.setIfInBounds_toArray, List.set_cons_zero, List.set_cons_succ])
          refine wpAnyH_take (i := 6) (oi := _) (v := ?_) rfl (by kernel_rfl) (by kernel_rfl) (by kernel_rfl) (fun _ _ _ h => h) (Or.inl ⟨by rfl, ?_⟩) (by assumption) ?_
          rotate_left 1
          · (intro wq hSw; (try dsimp only at hSw); (try simp only [List.getElem_toArray, List.getElem_cons_succ, List.getElem_cons_zero]); go_simp; try with_reducible rfl)
          (try simp only [Act.put, List.getElem_toArray, List.getElem_cons_succ, List.getElem_cons_zero, List.setIfInBounds_toArray, List.set_cons_zero, List.set_cons_succ])
          refine wpAnyH_take (i := 7) (oi := _) (v := ?_) rfl (by kernel_rfl) (by kernel_rfl) (by kernel_rfl) (fun _ _ _ h => h) (Or.inl ⟨by rfl, ?_⟩) (by assumption) ?_
          rotate_left 1
          · (intro wq hSw; (try dsimp only at hSw); (try simp only [List.getElem_toArray, List.getElem_cons_succ, List.getElem_cons_zero]); go_simp; try with_reducible rfl)
          (try simp only [Act.put, List.getElem_toArray, List.getElem_cons_succ, List.getElem_cons_zero, List.setIfInBounds_toArray, List.set_cons_zero, List.set_cons_succ])
          refine wpAnyH_take (i := 8) (oi := _) (v := ?_) rfl (by kernel_rfl) (by kernel_rfl) (by kernel_rfl) (fun _ _ _ h => h) (Or.inl ⟨by rfl, ?_⟩) (by assumption) ?_
          rotate_left 1
          · (intro wq hSw; (try dsimp only at hSw); (try simp only [List.getElem_toArray, List.getElem_cons_succ, List.getElem_cons_zero]); go_simp; try with_reducible rfl)
          (try simp only [Act.put, List.getElem_toArray, List.getElem_cons_succ, List.getElem_cons_zero, List.setIfInBounds_toArray, List.set_cons_zero, List.set_cons_succ])
          refine wpAnyH_take (i := 9) (oi := _) (v := ?_) rfl (by kernel_rfl) (by kernel_rfl) (by kernel_rfl) (fun _ _ _ h => h) (Or.inl ⟨by rfl, ?_⟩) (by assumption) ?_
          rotate_left 1
          · (intro wq hSw; (try dsimp only at hSw); (try simp only [List.getElem_toArray, List.getElem_cons_succ, List.getElem_cons_zero]); go_simp; try with_reducible rfl)
          (try simp only [Act.put, List.getElem_toArray, List.getElem_cons_succ, List.getElem_cons_zero, List.setIfInBounds_toArray, List.set_cons_zero, List.set_cons_succ])
          refine wpAnyH_take (i := 10) (oi := _) (v := ?_) rfl (by kernel_rfl) (by kernel_rfl) (by kernel_rfl) (fun _ _ _ h => h) (Or.inl ⟨by rfl, ?_⟩) (by assumption) ?_
          rotate_left 1
          · (intro wq hSw; (try dsimp only at hSw); (try simp only [List.getElem_toArray, List.getElem_cons_succ, List.getElem_cons_zero]); go_simp; try with_reducible rfl)
          (try simp only [Act.put, List.getElem_toArray, List.getElem_cons_succ, List.getElem_cons_zero, List.setIfInBounds_toArray, List.set_cons_zero, List.set_cons_succ])
          refine wpAnyH_take (i := 11) (oi := _) (v := ?_) rfl (by kernel_rfl) (by kernel_rfl) (by kernel_rfl) (fun _ _ _ h => h) (Or.inl ⟨by rfl, ?_⟩) (by assumption) ?_
          rotate_left 1
          · (intro wq hSw; (try dsimp only at hSw); (try simp only [List.getElem_toArray, List.getElem_cons_succ, List.getElem_cons_zero]); go_simp; try with_reducible rfl)
          (try simp only [Act.put, List.getElem_toArray, List.getElem_cons_succ, List.getElem_cons_zero, List.setIfInBounds_toArray, List.set_cons_zero, List.set_cons_succ])
          refine wpAnyH_take (i := 12) (oi := _) (v := ?_) rfl (by kernel_rfl) (by kernel_rfl) (by kernel_rfl) (fun _ _ _ h => h) (Or.inl ⟨by rfl, ?_⟩) (by assumption) ?_
          rotate_left 1
          · (intro wq hSw; (try dsimp only at hSw); (try simp only [List.getElem_toArray, List.getElem_cons_succ, List.getElem_cons_zero]); go_simp; try with_reducible rfl)
          (try simp only [Act.put, List.getElem_toArray, List.getElem_cons_succ, List.getElem_cons_zero, List.setIfInBounds_toArray, List.set_cons_zero, List.set_cons_succ])
          refine wpAnyH_take (i := 13) (oi := _) (v := ?_) rfl (by kernel_rfl) (by kernel_rfl) (by kernel_rfl) (fun _ _ _ h => h) (Or.inl ⟨by rfl, ?_⟩) (by assumption) ?_
          rotate_left 1
          · (intro wq hSw; (try dsimp only at hSw); (try simp only [List.getElem_toArray, List.getElem_cons_succ, List.getElem_cons_zero]); go_simp; try with_reducible rfl)
          (try simp only [Act.put, List.getElem_toArray, List.getElem_cons_succ, List.getElem_cons_zero, List.setIfInBounds_toArray, List.set_cons_zero, List.set_cons_succ])
          refine wpAnyH_take (i := 14) (oi := _) (v := ?_) rfl (by kernel_rfl) (by kernel_rfl) (by kernel_rfl) (fun _ _ _ h => h) (Or.inl ⟨by rfl, ?_⟩) (by assumption) ?_
          rotate_left 1
          · (intro wq hSw; (try dsimp only at hSw); (try simp only [List.getElem_toArray, List.getElem_cons_succ, List.getElem_cons_zero]); go_simp; try with_reducible rfl)
          (try simp only [Act.put, List.getElem_toArray, List.getElem_cons_succ, List.getElem_cons_zero, List.setIfInBounds_toArray, List.set_cons_zero, List.set_cons_succ])
          refine wpAnyH_take (i := 15) (oi := _) (v := ?_) rfl (by kernel_rfl) (by kernel_rfl) (by kernel_rfl) (fun _ _ _ h => h) (Or.inl ⟨by rfl, ?_⟩) (by assumption) ?_
          rotate_left 1
          · (intro wq hSw; (try dsimp only at hSw); (try simp only [List.getElem_toArray, List.getElem_cons_succ, List.getElem_cons_zero]); go_simp; try with_reducible rfl)
          (try simp only [Act.put, List.getElem_toArray, List.getElem_cons_succ, List.getElem_cons_zero, List.setIfInBounds_toArray, List.set_cons_zero, List.set_cons_succ])
          clear x0 x1 x2 x3 x4 x5 x6 x7 x8 x9 x10 x11 x12 c0 HNq HBq hrq
          generalize wq.drew = wz at *
          have c0 := c0d
          have XR := (unhide X5).below (unhide HBz)
          have x0 := XR.cell 0 rfl
          have x1 := XR.cell 1 rfl
          have x2 := XR.cell 2 rfl
          have x3 := XR.cell 3 rfl
          have x4 := XR.cell 4 rfl
          have x5 := XR.cell 5 rfl
          have x6 := XR.cell 6 rfl
          have x7 := XR.cell 7 rfl
          have x8 := XR.cell 8 rfl
          have x9 := XR.cell 9 rfl
          have x10 := XR.cell 10 rfl
          have x11 := XR.cell 11 rfl
          have x12 := XR.cell 12 rfl
          clear XR c0d
          have hbz : bq < wz.heap.size := by omega
          have hwz : w.heap.size < wz.heap.size := by omega
          refine wpAnyH_ready (rs := [16]) (by kernel_rfl) (by simp) ?_
          refine AllReadyH.cons (o := _) rfl (fun K hK => ?_) AllReadyH.nil
          go_simp
          refine (unhide HTe wz ((unhide O5).lg.ens.below (unhide HBz))).mono ?_
          rintro e w8 ⟨rfl, hb8⟩
          have hbX := hb8
          have HB8 := hide hb8
          go_wp2_with fail
          refine hK.out _ _ ?_ (fun hHeld => ?_)
          · exact ⟨(hbX.cell (p := ⟨bq, off + k, none⟩) hbz).trans c0, (hbX.cell (p := ⟨w.heap.size, 0, none⟩) hwz).trans x0, (hbX.cell (p := ⟨w.heap.size, 1, none⟩) hwz).trans x1, (hbX.cell (p := ⟨w.heap.size, 2, none⟩) hwz).trans x2, (hbX.cell (p := ⟨w.heap.size, 3, none⟩) hwz).trans x3, (hbX.cell (p := ⟨w.heap.size, 4, none⟩) hwz).trans x4, (hbX.cell (p := ⟨w.heap.size, 5, none⟩) hwz).trans x5, (hbX.cell (p := ⟨w.heap.size, 6, none⟩) hwz).trans x6, (hbX.cell (p := ⟨w.heap.size, 7, none⟩) hwz).trans x7, (hbX.cell (p := ⟨w.heap.size, 8, none⟩) hwz).trans x8, (hbX.cell (p := ⟨w.heap.size, 9, none⟩) hwz).trans x9, (hbX.cell (p := ⟨w.heap.size, 10, none⟩) hwz).trans x10, (hbX.cell (p := ⟨w.heap.size, 11, none⟩) hwz).trans x11, (hbX.cell (p := ⟨w.heap.size, 12, none⟩) hwz).trans x12⟩
          clear hK K
          (try simp only [Act.put, List.getElem_toArray, List.getElem_cons_succ, List.getElem_cons_zero, List.setIfInBounds_toArray, List.set_cons_zero, List.set_cons_succ])
          clear hb8
          generalize htp : termP lg lg.length = tp at *
          have HTP := hide htp
          clear htp
          refine wpAnyH_take (i := 17) (oi := _) (v := ?_) rfl (by kernel_rfl) (by kernel_rfl) (by kernel_rfl) (fun _ _ _ h => h) (Or.inl ⟨by rfl, ?_⟩) (by assumption) ?_
          rotate_left 1
          · (intro wq hSw; (try dsimp only at hSw); (try simp only [List.getElem_toArray, List.getElem_cons_succ, List.getElem_cons_zero]); go_simp; try with_reducible rfl)
          (try simp only [Act.put, List.getElem_toArray, List.getElem_cons_succ, List.getElem_cons_zero, List.setIfInBounds_toArray, List.set_cons_zero, List.set_cons_succ])
          have HB4 := hide ((Below.refl w8.heap.size w8).alloc (Nat.le_refl _) (.cells #[.int .i64 1, .int .i64 id, .int .i64 (d : Int), .int .i64 (tm + 1), .int .i64 (lg.length : Int), .int .i64 tp, .int .i64 0, .slice none 0 0, .bool false] 59))
          have HR4 := hide (blk_rw (Blk.new w8 #[.int .i64 1, .int .i64 id, .int .i64 (d : Int), .int .i64 (tm + 1), .int .i64 (lg.length : Int), .int .i64 tp, .int .i64 0, .slice none 0 0, .bool false] 59 w8.heap.size rfl))
          refine wpAnyH_ready (rs := [18]) (by kernel_rfl) (by simp) ?_
          refine AllReadyH.cons (o := _) rfl (fun K hK => ?_) AllReadyH.nil
          go_simp
          have hbX := (unhide HB8).trans ((unhide HB4).mono (unhide HB8).size)
          refine hK.out _ _ ?_ (fun hHeld => ?_)
          · exact ⟨(hbX.cell (p := ⟨bq, off + k, none⟩) hbz).trans c0, (hbX.cell (p := ⟨w.heap.size, 0, none⟩) hwz).trans x0, (hbX.cell (p := ⟨w.heap.size, 1, none⟩) hwz).trans x1, (hbX.cell (p := ⟨w.heap.size, 2, none⟩) hwz).trans x2, (hbX.cell (p := ⟨w.heap.size, 3, none⟩) hwz).trans x3, (hbX.cell (p := ⟨w.heap.size, 4, none⟩) hwz).trans x4, (hbX.cell (p := ⟨w.heap.size, 5, none⟩) hwz).trans x5, (hbX.cell (p := ⟨w.heap.size, 6, none⟩) hwz).trans x6, (hbX.cell (p := ⟨w.heap.size, 7, none⟩) hwz).trans x7, (hbX.cell (p := ⟨w.heap.size, 8, none⟩) hwz).trans x8, (hbX.cell (p := ⟨w.heap.size, 9, none⟩) hwz).trans x9, (hbX.cell (p := ⟨w.heap.size, 10, none⟩) hwz).trans x10, (hbX.cell (p := ⟨w.heap.size, 11, none⟩) hwz).trans x11, (hbX.cell (p := ⟨w.heap.size, 12, none⟩) hwz).trans x12⟩
          clear hK K hbX
          (try simp only [Act.put, List.getElem_toArray, List.getElem_cons_succ, List.getElem_cons_zero, List.setIfInBounds_toArray, List.set_cons_zero, List.set_cons_succ])
          have hs4 : w8.heap.size < (w8.alloc (.cells #[.int .i64 1, .int .i64 id, .int .i64 (d : Int), .int .i64 (tm + 1), .int .i64 (lg.length : Int), .int .i64 tp, .int .i64 0, .slice none 0 0, .bool false] 59)).heap.size := by simp
          have hs8 := (unhide HB8).size
          generalize w8.alloc (.cells #[.int .i64 1, .int .i64 id, .int .i64 (d : Int), .int .i64 (tm + 1), .int .i64 (lg.length : Int), .int .i64 tp, .int .i64 0, .slice none 0 0, .bool false] 59) = w4 at *
          have HRow := hide (own_kept (T := fun _ => False) (own_kept (T := fun _ => False) (unhide HNz).row (Touch.ofBelow (unhide HB8)) (fun _ _ e => e)) (Touch.ofBelow (unhide HB4)) (fun _ _ e => e))
          refine wpAnyH_ready (rs := [19]) (by kernel_rfl) (by simp) ?_
          refine AllReadyH.cons (o := _) rfl (fun K hK => ?_) AllReadyH.nil
          refine step_append_row rfl _ _ _ rfl w5.heap.size 59 i1 _ 9 88 Try.underlying30 hj hy0 hy1 hy2 rfl (by omega) u l.length _ rfl (unhide HRow) _ 1 [.int .i64 1, .int .i64 id, .int .i64 (d : Int), .int .i64 (tm + 1), .int .i64 (lg.length : Int), .int .i64 tp, .int .i64 0, .slice none 0 0, .bool false] rfl (unhide HR4) rfl (by simp [Value.oneCell']) (by unfold maxLen; omega) (by omega) (by omega) ?_
          intro a6 c6 w9 hown5 hgrow5 hat5
          obtain ⟨gg, rfl⟩ : ∃ gg, a6 = some ⟨gg, 0, none⟩ := by
            rcases own_shape hown5 with ⟨_, h0⟩ | ⟨gg, cap, hq, _⟩
            · omega
            · simp only [Value.slice.injEq] at hq
              exact ⟨gg, hq.1⟩
          have hat : u.ownBlock = some gg ∨ gg = w4.heap.size := by
            rcases hat5 with h | h
            · exact .inl h.symm
            · right; simpa [Value.ownBlock] using h
          have hu : ∀ q, u.ownBlock = some q → w5.heap.size ≤ q := fun q e => (World.ownsRow.lt (unhide HNz).row q e).1
          have hO5 : OwnE wz.heap.size w8 (.slice none 0 0) [] := ⟨rfl, .inl ⟨rfl, rfl⟩⟩
          have NS := hide (Ns.pushed0 (S := mgS) (x := (⟨1, id, (d : Int), tm + 1, (lg.length : Int), tp, 0, false, [], .slice none 0 0⟩ : MV)) (unhide HNz) (unhide HB8) (fun q hq => by simp only [mgS, mgSubs, List.mem_cons, List.not_mem_nil, or_false] at hq; subst hq; exact hO5) (by simp [mgS, mgSubs]) (unhide HB4) hown5 hgrow5 hat (by omega))
          have hB94 := ((unhide HBz).trans ((unhide HB8).mono (by omega))).trans ((unhide HB4).mono (by omega))
          have HB9 := hide (hB94.grown hgrow5 (by omega) (fun r hr => hu r hr))
          have hT := (unhide HB9)
          have XX := (unhide X5).below hT
          have cc := (hT.cell (p := ⟨bq, off + k, none⟩) hbl)
          have cb := (unhide HBz).cell (p := ⟨bq, off + k, none⟩) hbl
          refine hK.out _ _ ?_ (fun hHeld => ?_)
          · exact ⟨cc.trans (cb.symm.trans c0), XX.cell 0 rfl, XX.cell 1 rfl, XX.cell 2 rfl, XX.cell 3 rfl, XX.cell 4 rfl, XX.cell 5 rfl, XX.cell 6 rfl, XX.cell 7 rfl, XX.cell 8 rfl, XX.cell 9 rfl, XX.cell 10 rfl, XX.cell 11 rfl, XX.cell 12 rfl⟩
          clear hK K hT hown5 hgrow5 hat5 hat HRow HB8 HB4 HR4 hu hB94 XX cc cb x0 x1 x2 x3 x4 x5 x6 x7 x8 x9 x10 x11 x12 c0
          (try simp only [Act.put, List.getElem_toArray, List.getElem_cons_succ, List.getElem_cons_zero, List.setIfInBounds_toArray, List.set_cons_zero, List.set_cons_succ])
          refine wpAnyH_take (i := 20) (oi := _) (v := ?_) rfl (by kernel_rfl) (by kernel_rfl) (by kernel_rfl) (fun _ _ _ h => h) (Or.inl ⟨by rfl, ?_⟩) (by assumption) ?_
          rotate_left 1
          · (intro wq hSw; (try dsimp only at hSw); (try simp only [List.getElem_toArray, List.getElem_cons_succ, List.getElem_cons_zero]); go_simp; try with_reducible rfl)
          (try simp only [Act.put, List.getElem_toArray, List.getElem_cons_succ, List.getElem_cons_zero, List.setIfInBounds_toArray, List.set_cons_zero, List.set_cons_succ])
          refine wpAnyH_done (by kernel_rfl) (NoPanic.normal ?_) _
          go_wp2_with fail
          refine ⟨⟨k + 1, l ++ [(⟨1, id, (d : Int), tm + 1, (lg.length : Int), tp, 0, false, [], .slice none 0 0⟩ : MV)], _, rfl, by omega, by go_num, by simp; omega, hide ?_, hide ?_, HB9⟩, ?_⟩
          · rw [List.length_append]; exact unhide NS
          · rw [List.map_append, unhide LR, unhide HN2, List.map_cons, List.map_nil]
            unfold pleaM
            rw [unhide HTP]
            rfl
          · simp [intOf] <;> omega
      · obtain rfl : k = mb.length := by omega
        have q5 : ¬ (mb.length : Int) < (mb.length : Int) := by omega
        have hL := unhide LR
        rw [List.take_length] at hL
        have HL := hide hL
        have RX6 := (unhide R5).below (unhide BR)
        have XR := (unhide X5).below (unhide BR)
        have x0 := XR.cell 0 rfl
        have x1 := XR.cell 1 rfl
        have x2 := XR.cell 2 rfl
        have x3 := XR.cell 3 rfl
        have x4 := XR.cell 4 rfl
        have x5 := XR.cell 5 rfl
        have x6 := XR.cell 6 rfl
        have x7 := XR.cell 7 rfl
        have x8 := XR.cell 8 rfl
        have x9 := XR.cell 9 rfl
        have x10 := XR.cell 10 rfl
        have x11 := XR.cell 11 rfl
        have x12 := XR.cell 12 rfl
        clear XR hL LR
        have RX := RX6
        have r0 := RX.cell 0 rfl
        have r1 := RX.cell 1 rfl
        have r2 := RX.cell 2 rfl
        have r3 := RX.cell 3 rfl
        have r4 := RX.cell 4 rfl
        have r5 := RX.cell 5 rfl
        have r6 := RX.cell 6 rfl
        have r7 := RX.cell 7 rfl
        have r8 := RX.cell 8 rfl
        have r9 := RX.cell 9 rfl
        have r10 := RX.cell 10 rfl
        have r11 := RX.cell 11 rfl
        have r12 := RX.cell 12 rfl
        have f0 := RX.fro 0
        have f1 := RX.fro 1
        have f2 := RX.fro 2
        have f3 := RX.fro 3
        have f4 := RX.fro 4
        have f5 := RX.fro 5
        have f6 := RX.fro 6
        have f7 := RX.fro 7
        have f8 := RX.fro 8
        have f9 := RX.fro 9
        have f10 := RX.fro 10
        have f11 := RX.fro 11
        have f12 := RX.fro 12
        have HR9 := hide ((((((((((((((RX.set 0 (.int .i64 id) (by simp)).set 1 (.int .i64 (tm + 1)) (by simp)).set 2 (.int .i64 id) (by simp)).set 3 (.slice la lg.length lc) (by simp)).set 4 (.slice sa st.length sc) (by simp)).set 5 (.int .i64 1) (by simp)).set 6 (.slice (some ⟨nb, 0, none⟩) 1 1) (by simp)).set 7 (.slice (some ⟨g, 0, none⟩) 7 nc) (by simp)).set 8 (.slice (some ⟨h, 0, none⟩) 7 mc) (by simp)).set 9 (.int .i64 cm) (by simp)).set 10 (.int .i64 0) (by simp)).set 11 (.int .i64 (5 + draw % 8)) (by simp)).set 12 (.bool up) (by simp)))
        have T9 := ((((((((((((((Touch.refl (fun q => q = w.heap.size + 1) wr).setCell ⟨w.heap.size + 1, 0, none⟩ (.int .i64 id) (fun _ => rfl)).setCell ⟨w.heap.size + 1, 1, none⟩ (.int .i64 (tm + 1)) (fun _ => rfl)).setCell ⟨w.heap.size + 1, 2, none⟩ (.int .i64 id) (fun _ => rfl)).setCell ⟨w.heap.size + 1, 3, none⟩ (.slice la lg.length lc) (fun _ => rfl)).setCell ⟨w.heap.size + 1, 4, none⟩ (.slice sa st.length sc) (fun _ => rfl)).setCell ⟨w.heap.size + 1, 5, none⟩ (.int .i64 1) (fun _ => rfl)).setCell ⟨w.heap.size + 1, 6, none⟩ (.slice (some ⟨nb, 0, none⟩) 1 1) (fun _ => rfl)).setCell ⟨w.heap.size + 1, 7, none⟩ (.slice (some ⟨g, 0, none⟩) 7 nc) (fun _ => rfl)).setCell ⟨w.heap.size + 1, 8, none⟩ (.slice (some ⟨h, 0, none⟩) 7 mc) (fun _ => rfl)).setCell ⟨w.heap.size + 1, 9, none⟩ (.int .i64 cm) (fun _ => rfl)).setCell ⟨w.heap.size + 1, 10, none⟩ (.int .i64 0) (fun _ => rfl)).setCell ⟨w.heap.size + 1, 11, none⟩ (.int .i64 (5 + draw % 8)) (fun _ => rfl)).setCell ⟨w.heap.size + 1, 12, none⟩ (.bool up) (fun _ => rfl))
        have HT9 := hide T9
        clear RX T9
        clear RX6
        go_wp2_with fail
        have R9 := unhide HR9
        have z0 := R9.cell 0 rfl
        have z1 := R9.cell 1 rfl
        have z2 := R9.cell 2 rfl
        have z3 := R9.cell 3 rfl
        have z4 := R9.cell 4 rfl
        have z5 := R9.cell 5 rfl
        have z6 := R9.cell 6 rfl
        have z7 := R9.cell 7 rfl
        have z8 := R9.cell 8 rfl
        have z9 := R9.cell 9 rfl
        have z10 := R9.cell 10 rfl
        have z11 := R9.cell 11 rfl
        have z12 := R9.cell 12 rfl
        refine bodyPost_ret (v := .tuple #[.agg #[.int .i64 id, .int .i64 (tm + 1), .int .i64 id, .slice la lg.length lc, .slice sa st.length sc, .int .i64 1, .slice (some ⟨nb, 0, none⟩) 1 1, .slice (some ⟨g, 0, none⟩) 7 nc, .slice (some ⟨h, 0, none⟩) 7 mc, .int .i64 cm, .int .i64 0, .int .i64 (5 + draw % 8), .bool up], u]) (by simp [results, Try.results45, go_sem, z0, z1, z2, z3, z4, z5, z6, z7, z8, z9, z10, z11, z12]) rfl ?_
        rw [unhide HU]
        have hnx := (unhide HNL).1
        have hmt := (unhide HNL).2
        have hge := fun q hq => (nsT_ge (unhide NR) q hq).1
        have hbk := fun q hq => (NoO.blk (unhide O5) q hq).2
        simp only [Bool.false_eq_true, if_false]
        unfold ElAns
        refine ⟨la, lc, sa, sc, some ⟨nb, 0, none⟩, 1, some ⟨g, 0, none⟩, nc, some ⟨h, 0, none⟩, mc, u, l, ?_, ?_, ((unhide NR).kept (unhide HT9) (fun q e _ => by omega)).down (by omega), unhide HL, ?_, ((Touch.ofBelow (T := fun q => B ≤ q) ((unhide K5).trans ((unhide BR).mono (unhide K5).size)))).trans (T' := fun q => q = w.heap.size + 1) (unhide HT9) (fun j hj e => by omega)⟩
        · simp only [hnx, hmt]; rfl
        · rw [hnx, hmt]
          exact NoO.keep ((unhide O5).below (unhide BR)) (unhide HT9) (fun q hq => (unhide HAP q hq).2)
        · rw [hnx, hmt]
          exact fun q hq e => by have := hge q e; have := hbk q hq; omega
  · have HC := hide (unhide HLd w5 (unhide O5) (by omega))
    have x0 := (unhide X5).cell 0 rfl
    have x1 := (unhide X5).cell 1 rfl
    have x2 := (unhide X5).cell 2 rfl
    have x3 := (unhide X5).cell 3 rfl
    have x4 := (unhide X5).cell 4 rfl
    have x5 := (unhide X5).cell 5 rfl
    have x6 := (unhide X5).cell 6 rfl
    have x7 := (unhide X5).cell 7 rfl
    have x8 := (unhide X5).cell 8 rfl
    have x9 := (unhide X5).cell 9 rfl
    have x10 := (unhide X5).cell 10 rfl
    have x11 := (unhide X5).cell 11 rfl
    have x12 := (unhide X5).cell 12 rfl
    go_wp2_with fail
    refine (unhide HC).mono ?_
    rintro e w6 ⟨la6, lc6, mv, l, D, rfl, g1, g2, g3, g4, g5, g6⟩
    have R6 := (unhide R5).kept g6 (fun e => (unhide HAP _ e).2 rfl)
    have HG := hide (And.intro g1 (And.intro g2 (And.intro g3 (And.intro g4 g5))))
    have hblk := fun q hq => (NoO.blk (unhide O5) q hq).1
    have T6 := hide ((Touch.ofBelow (T := fun q => B ≤ q) (unhide K5)).trans (T' := fun q => B ≤ q) (g6.wide (fun q hq => hblk q hq)) (fun _ _ e => e))
    have hs6 := g6.size
    generalize hcm : advTo id (tm + 1) cm (leadL (tm + 1) lg) (List.replicate 7 (0 : Int)) (mbAt (leadL (tm + 1) lg) st (leadL (tm + 1) lg).length) (leadL (tm + 1) lg).length = cmN
    have HCM := hide hcm
    clear hcm g1 g2 g3 g4 g5 g6 x0 x1 x2 x3 x4 x5 x6 x7 x8 x9 x10 x11 x12 HC hblk
    have HLN : Hid (leadL (tm + 1) lg = leadL (tm + 1) lg) := hide rfl
    generalize hln : (leadL (tm + 1) lg).length = ln at *
    have HLn := hide hln
    clear hln
    have RX := R6
    have r0 := RX.cell 0 rfl
    have r1 := RX.cell 1 rfl
    have r2 := RX.cell 2 rfl
    have r3 := RX.cell 3 rfl
    have r4 := RX.cell 4 rfl
    have r5 := RX.cell 5 rfl
    have r6 := RX.cell 6 rfl
    have r7 := RX.cell 7 rfl
    have r8 := RX.cell 8 rfl
    have r9 := RX.cell 9 rfl
    have r10 := RX.cell 10 rfl
    have r11 := RX.cell 11 rfl
    have r12 := RX.cell 12 rfl
    have f0 := RX.fro 0
    have f1 := RX.fro 1
    have f2 := RX.fro 2
    have f3 := RX.fro 3
    have f4 := RX.fro 4
    have f5 := RX.fro 5
    have f6 := RX.fro 6
    have f7 := RX.fro 7
    have f8 := RX.fro 8
    have f9 := RX.fro 9
    have f10 := RX.fro 10
    have f11 := RX.fro 11
    have f12 := RX.fro 12
    have HR9 := hide ((((((((((((((RX.set 0 (.int .i64 id) (by simp)).set 1 (.int .i64 (tm + 1)) (by simp)).set 2 (.int .i64 id) (by simp)).set 3 (.slice la6 ln lc6) (by simp)).set 4 (.slice sa st.length sc) (by simp)).set 5 (.int .i64 2) (by simp)).set 6 (.slice (some ⟨nb, 0, none⟩) 1 1) (by simp)).set 7 (.slice (some ⟨g, 0, none⟩) 7 nc) (by simp)).set 8 (.slice (some ⟨h, 0, none⟩) 7 mc) (by simp)).set 9 (.int .i64 cmN) (by simp)).set 10 (.int .i64 0) (by simp)).set 11 (.int .i64 (5 + draw % 8)) (by simp)).set 12 (.bool up) (by simp)))
    have T9 := ((((((((((((((Touch.refl (fun q => q = w.heap.size + 1) w6).setCell ⟨w.heap.size + 1, 0, none⟩ (.int .i64 id) (fun _ => rfl)).setCell ⟨w.heap.size + 1, 1, none⟩ (.int .i64 (tm + 1)) (fun _ => rfl)).setCell ⟨w.heap.size + 1, 2, none⟩ (.int .i64 id) (fun _ => rfl)).setCell ⟨w.heap.size + 1, 3, none⟩ (.slice la6 ln lc6) (fun _ => rfl)).setCell ⟨w.heap.size + 1, 4, none⟩ (.slice sa st.length sc) (fun _ => rfl)).setCell ⟨w.heap.size + 1, 5, none⟩ (.int .i64 2) (fun _ => rfl)).setCell ⟨w.heap.size + 1, 6, none⟩ (.slice (some ⟨nb, 0, none⟩) 1 1) (fun _ => rfl)).setCell ⟨w.heap.size + 1, 7, none⟩ (.slice (some ⟨g, 0, none⟩) 7 nc) (fun _ => rfl)).setCell ⟨w.heap.size + 1, 8, none⟩ (.slice (some ⟨h, 0, none⟩) 7 mc) (fun _ => rfl)).setCell ⟨w.heap.size + 1, 9, none⟩ (.int .i64 cmN) (fun _ => rfl)).setCell ⟨w.heap.size + 1, 10, none⟩ (.int .i64 0) (fun _ => rfl)).setCell ⟨w.heap.size + 1, 11, none⟩ (.int .i64 (5 + draw % 8)) (fun _ => rfl)).setCell ⟨w.heap.size + 1, 12, none⟩ (.bool up) (fun _ => rfl))
    have HT9 := hide T9
    clear RX T9
    go_wp2_with fail
    have R9 := unhide HR9
    have z0 := R9.cell 0 rfl
    have z1 := R9.cell 1 rfl
    have z2 := R9.cell 2 rfl
    have z3 := R9.cell 3 rfl
    have z4 := R9.cell 4 rfl
    have z5 := R9.cell 5 rfl
    have z6 := R9.cell 6 rfl
    have z7 := R9.cell 7 rfl
    have z8 := R9.cell 8 rfl
    have z9 := R9.cell 9 rfl
    have z10 := R9.cell 10 rfl
    have z11 := R9.cell 11 rfl
    have z12 := R9.cell 12 rfl
    refine bodyPost_ret (v := .tuple #[.agg #[.int .i64 id, .int .i64 (tm + 1), .int .i64 id, .slice la6 ln lc6, .slice sa st.length sc, .int .i64 2, .slice (some ⟨nb, 0, none⟩) 1 1, .slice (some ⟨g, 0, none⟩) 7 nc, .slice (some ⟨h, 0, none⟩) 7 mc, .int .i64 cmN, .int .i64 0, .int .i64 (5 + draw % 8), .bool up], mv]) (by simp [results, Try.results45, go_sem, z0, z1, z2, z3, z4, z5, z6, z7, z8, z9, z10, z11, z12]) rfl ?_
    rw [unhide HU]
    obtain ⟨g1, g2, g3, g4, g5⟩ := unhide HG
    have e2 := unhide HLn
    have e1 := unhide HCM
    subst e2
    subst e1
    have hge := fun q hq => (nsT_ge g2 q hq).1
    simp only [if_true]
    unfold ElAns leadOut
    refine ⟨la6, lc6, sa, sc, some ⟨nb, 0, none⟩, 1, some ⟨g, 0, none⟩, nc, some ⟨h, 0, none⟩, mc, mv, l, ?_, ?_, (g2.kept (unhide HT9) (fun q e _ => by omega)).down (by omega), g3, ?_, (unhide T6).trans (T' := fun q => q = w.heap.size + 1) (unhide HT9) (fun j hj e => by omega)⟩
    · simp only [List.length_replicate]; rfl
    · simp only [List.length_replicate]
      exact NoO.keep g1 (unhide HT9) (fun q hq e => (g4 q hq).2.elim (fun h => (unhide HAP q h).2 e) (fun h => by omega))
    · simp only [List.length_replicate]
      exact fun q hq e => by have := hge q e; have := (g4 q hq).1; omega
end Go.Proofs.Ytljolldacpkeeaa
