/- The root of a ledger: both LedgerRoot. -/
import Derived.Test.YthabemlcabmmaaaDoorLeI
import Derived.Test.YthabemlcabmmaaaDoorMkT
import Derived.Test.YthabemlcabmmaaaDoorBrJ
namespace Go.Proofs.YthabemlcabmmaaaDoor.Sha
open Go.ChangeShapes Go.WideShapes Go.ChangeAt Go.RowKit
set_option linter.unusedVariables false
set_option linter.unusedSimpArgs false

def rootM : ByteArray := ⟨#[114, 111, 111, 116]⟩
def lrV (ls : List ByteArray) (o : Option Tr) : ByteArray := kh (rootM ++ treeV ls ++ rootR o)
/-- What LedgerRoot answers. -/
def lrOut (ls : List ByteArray) (b : Br) (ss : List Se) : Value := if ledB ls b ss = true then (match mapV b with
    | none => .tuple #[.string ⟨#[]⟩, .int .i64 1]
    | some o => .tuple #[.string (lrV ls o), .int .i64 0])
  else .tuple #[.string ⟨#[]⟩, .int .i64 1]
theorem lr_cases (ls : List ByteArray) (b : Br) (ss : List Se) : ∃ s c, lrOut ls b ss = .tuple #[.string s, .int .i64 c] := by
  unfold lrOut
  split
  · split
    · exact ⟨_, _, rfl⟩
    · exact ⟨_, _, rfl⟩
  · exact ⟨_, _, rfl⟩
theorem rootR_size (o : Option Tr) (h : OkO o) : (rootR o).size = 32 := by
  cases o with
  | none => exact hash_size (by simp)
  | some t => exact trR_size t h
theorem allH_all {l : List ByteArray} (h : allH l = true) : AllH l := fun j hj => allH_at h j hj
theorem ledB_facts {ls : List ByteArray} {b : Br} {ss : List Se} (h : ledB ls b ss = true) : ls.length ≤ 50 ∧ AllH ls ∧ mapB b = true ∧ sesB ss = true := by
  unfold ledB at h
  simp only [Bool.and_eq_true] at h
  exact ⟨by simpa using h.1.1.1, allH_all h.1.1.2, h.1.2, h.2⟩
set_option maxRecDepth 100000 in
theorem logRoot_any (p g cap : Nat) (ls : List ByteArray) (w : World) (hc : w.cell? ⟨p, 0, none⟩ = some (.slice (some ⟨g, 0, none⟩) ls.length cap)) (hs : SA w g 0 cap ls) (h50 : ls.length ≤ 50) (ha : AllH ls) (ht : Tab w) :
    Calls Tryd.prog 91 #[.pointer (some ⟨p, 0, none⟩)] w fun e w' => e = .returned (.string (treeV ls)) ∧ Below w.heap.size w w' := by
  have HT := hide (treeHash_any ls.length ls g 0 cap w rfl (by omega) ha hs ht)
  clear hs ha ht
  generalize treeV ls = tv at *
  go_enter Tryd.func91, Tryd.ntmps91
  go_wp2_with fail
  refine (unhide HT).mono ?_
  rintro e w1 ⟨rfl, hb1⟩
  have K := hide hb1
  clear hb1
  go_wp2_with fail
  go_ret
  exact ⟨rfl, unhide K⟩
set_option maxRecDepth 100000 in
theorem mapRootM_any (p : Nat) (tp : Option Addr) (S : Nat → Prop) (o : Option Tr) (w : World) (hc : w.cell? ⟨p, 1, none⟩ = some (.pointer tp)) (hp : PtrM w S tp o) (hok : OkO o) (ht : Tab w) :
    Calls Tryd.prog 92 #[.pointer (some ⟨p, 1, none⟩)] w fun e w' => e = .returned (.string (rootR o)) ∧ Below w.heap.size w w' := by
  have HT := hide (rootO_any hp hok ht)
  clear hp hok ht
  generalize rootR o = tv at *
  go_enter Tryd.func92, Tryd.ntmps92
  go_wp2_with fail
  refine (unhide HT).mono ?_
  rintro e w1 ⟨rfl, hb1⟩
  have K := hide hb1
  clear hb1
  go_wp2_with fail
  go_ret
  exact ⟨rfl, unhide K⟩
set_option maxRecDepth 100000 in
set_option maxHeartbeats 1000000 in
theorem implLedgerRoot_any (ls : List ByteArray) (k v : ByteArray) (a : Int) (ks : List Br) (ss : List Se) (lb loff lc : Nat) (ka : Option Addr) (kc : Nat) (sx : Addr) (sc : Nat) (w : World)
    (hS : SA w lb loff lc ls) (h : LedR w (.slice (some ⟨lb, loff, none⟩) ls.length lc) (.slice ka ks.length kc) (.slice (some sx) ss.length sc) ls ks ss) (t1 : ∀ i, (ls.getD i ByteArray.empty).size ≤ 1048576) (zk : k.size ≤ maxLen) (zv : v.size ≤ maxLen) (t3 : ∀ i, (ss.getD i default).vl.size ≤ 1048576) (ht : Tab w) :
    Calls Tryd.prog 41 #[.agg #[.slice (some ⟨lb, loff, none⟩) ls.length lc, .string k, .string v, .int .i64 a, .slice ka ks.length kc, .slice (some sx) ss.length sc]] w fun e w' => e = .returned (lrOut ls (.mk k v a ks) ss) ∧ Below w.heap.size w w' := by
  have B0 := hide ((Below.refl w.heap.size w).alloc (Nat.le_refl _) (.cells #[.slice (some ⟨lb, loff, none⟩) ls.length lc, .string k, .string v, .int .i64 a, .slice ka ks.length kc, .slice (some sx) ss.length sc] 63))
  have HB := hide (openBook_any ls k v a ks ss lb loff lc ka kc sx sc _ (hS.below (unhide B0)) (h.below (unhide B0)) t1 zk zv t3 (ht.below (unhide B0)))
  have HT := hide ht
  have HOD : Hid (lrOut ls (.mk k v a ks) ss = if ledB ls (.mk k v a ks) ss = true then (match mapV (.mk k v a ks) with | none => .tuple #[.string ⟨#[]⟩, .int .i64 1] | some o => .tuple #[.string (lrV ls o), .int .i64 0]) else .tuple #[.string ⟨#[]⟩, .int .i64 1]) := rfl
  have HBR := hide (fun o => mapV_br (b := .mk k v a ks) (o := o))
  clear hS h t1 zk zv t3 ht
  go_enter Tryd.func41, Tryd.ntmps41
  go_wp2_with fail
  refine (unhide HB).mono ?_
  rintro e w1 ⟨pv, rfl, hb1, hok⟩
  have K1 := hide ((unhide B0).trans (hb1.mono (unhide B0).size))
  have hsz0 := (unhide B0).size
  clear hb1 HB
  rcases Bool.eq_false_or_eq_true (ledB ls (.mk k v a ks) ss) with hl | hl
  case inr =>
    have HO : Hid (lrOut ls (.mk k v a ks) ss = .tuple #[.string ⟨#[]⟩, .int .i64 1]) := hide (by rw [unhide HOD, if_neg (by rw [hl]; decide)])
    rw [hl]
    go_wp2_with fail
    go_ret2
    exact ⟨by rw [unhide HO]; rfl, unhide K1⟩
  obtain ⟨p, g, lcap, tp, h2, hc2, S, o, rfl, ho, hbk⟩ := hok hl
  obtain ⟨h50, hall, _, _⟩ := ledB_facts hl
  have HO : Hid (lrOut ls (.mk k v a ks) ss = .tuple #[.string (lrV ls o), .int .i64 0]) := hide (by rw [unhide HOD, if_pos hl, ho])
  obtain ⟨hblk, hBp, hOl, hOs, hPm, hSx, _, _, _⟩ := hbk
  have hts := tree_size ls.length ls rfl (by omega) hall
  have hok := (unhide HBR o ho).2
  have hrs := rootR_size o hok
  have HC := hide hblk
  have HLR := hide (fun wx (hx : Below w1.heap.size w1 wx) (hT : Tab wx) => logRoot_any p g lcap ls wx ((hblk.below hx).cell 0 rfl) (SA.own (hOl.below hx)) h50 hall hT)
  have HMR := hide (fun wx (hx : Below w1.heap.size w1 wx) (hT : Tab wx) => mapRootM_any p tp S o wx ((hblk.below hx).cell 1 rfl) (hPm.blw hx) hok hT)
  obtain ⟨c1, hc1⟩ : ∃ c1, (⟨#[114, 111, 111, 116]⟩ : ByteArray) ++ treeV ls = c1 := ⟨_, rfl⟩
  obtain ⟨c2, hct2⟩ : ∃ c2, c1 ++ rootR o = c2 := ⟨_, rfl⟩
  have HV : Hid (lrV ls o = hashV (bytesI c2)) := hide (by rw [← hct2, ← hc1]; rfl)
  have hc1z : c1.size = 36 := by rw [← hc1, ByteArray.size_append, hts]; rfl
  have hcat : c2.size = 68 := by rw [← hct2, ← hc1, ByteArray.size_append, ByteArray.size_append, hts, hrs]; rfl
  have HD := hide (below_drewN (Below.refl w1.heap.size w1) 1)
  have HT1 := hide ((unhide HT).below (unhide K1))
  generalize lrV ls o = res at *
  generalize treeV ls = tv at *
  generalize rootR o = rv at *
  clear hblk hOl hOs hPm hSx hall HBR HOD
  rw [hl]
  go_wp2_with fail
  go_region_law (first
    | (go_simp; go_at_call 79; refine (implHash_any _ _ w4 hBy (hT3.below hb4).2 (hT3.below hb4).1).mono ?_; rintro e w5 ⟨rfl, hb5⟩; go_simp)
    | (go_simp; go_at_call 92; refine (unhide HMR _ k2 hT2).mono ?_; rintro e w3 ⟨rfl, hb3⟩; (have k3 := k2.trans (hb3.mono k2.size)); (have hT3 := hT2.below hb3); (obtain ⟨cap4, w4, hcv, hBy, hb4⟩ := str_bytesB c2 w3 (by unfold maxLen; omega)); rw [hcat] at hcv hBy; go_simp)
    | (go_simp; go_at_call 91; refine (unhide HLR _ (unhide HD) ((unhide HT1).below (unhide HD))).mono ?_; rintro e w2 ⟨rfl, hb2⟩; (have k2 := (unhide HD).trans (hb2.mono (unhide HD).size)); (have hT2 := (unhide HT1).below k2); go_simp))
  all_goals
    have K5 := hide ((unhide K1).trans ((k3.trans ((hb4.trans (hb5.mono hb4.size)).mono k3.size)).mono (unhide K1).size))
    clear hb2 hb3 hb4 hb5 k2 k3 hT2 hT3 hBy hcv
    rw [← unhide HV]
    go_wp2_with fail
    go_ret2
    exact ⟨by rw [unhide HO]; rfl, unhide K5⟩
set_option maxRecDepth 100000 in
set_option maxHeartbeats 1000000 in
theorem l09Root_any (ls : List ByteArray) (o : Option Tr) (ss : List Se) (g gc : Nat) (ka : Option Addr) (kc : Nat) (sv : Value) (w : World) (hOl : SA w g 0 gc ls) (hK : Brs (fun _ => True) w (.slice ka (brOf o).kids.length kc) (brOf o).kids) (h50 : ls.length ≤ 50) (hall : AllH ls) (hok : OkO o) :
    Calls Tryd.prog 87 #[.agg #[.slice (some ⟨g, 0, none⟩) ls.length gc, .string (brOf o).key, .string (brOf o).val, .int .i64 (brOf o).at_, .slice ka (brOf o).kids.length kc, sv]] w fun e w' => e = .returned (.string (lrV ls o)) ∧ Below w.heap.size w w' := by
  have B0 := hide ((Below.refl w.heap.size w).alloc (Nat.le_refl _) (.cells #[.slice (some ⟨g, 0, none⟩) ls.length gc, .string (brOf o).key, .string (brOf o).val, .int .i64 (brOf o).at_, .slice ka (brOf o).kids.length kc, sv] 63))
  have X0 := hide (Blk.new w #[.slice (some ⟨g, 0, none⟩) ls.length gc, .string (brOf o).key, .string (brOf o).val, .int .i64 (brOf o).at_, .slice ka (brOf o).kids.length kc, sv] 63 w.heap.size rfl)
  have hts := tree_size ls.length ls rfl (by omega) hall
  have hrs := rootR_size o hok
  have HTR := hide (fun wx (hx : Below w.heap.size w wx) => l06Tree_any ls.length ls g 0 gc wx rfl (by omega) hall (hOl.below hx))
  have HRT := hide (fun wx (hx : Below w.heap.size w wx) => l07RootO_any o hok _ _ wx (hK.blw hx))
  obtain ⟨c1, hc1⟩ : ∃ c1, (⟨#[114, 111, 111, 116]⟩ : ByteArray) ++ treeV ls = c1 := ⟨_, rfl⟩
  obtain ⟨c2, hct2⟩ : ∃ c2, c1 ++ rootR o = c2 := ⟨_, rfl⟩
  have hc1z : c1.size = 36 := by rw [← hc1, ByteArray.size_append, hts]; rfl
  have hcat : c2.size = 68 := by rw [← hct2, ← hc1, ByteArray.size_append, ByteArray.size_append, hts, hrs]; rfl
  have hl : (bytesI c2).length = 68 := by rw [bytesI_len]; exact hcat
  have HV : Hid (lrV ls o = strOfNums (textL (stAt (bytesI c2) (padLen (bytesI c2).length / 64)))) := hide ((show lrV ls o = hashV (bytesI c2) by rw [← hct2, ← hc1]; rfl).trans (hashV_yes (by omega)))
  have HHL := hide (fun (cap4 : Nat) (wx wy : World) (hBy : Bytes wy (.slice (some ⟨wx.heap.size, 0, none⟩) 68 cap4) (bytesI c2)) => l01Hash_any ⟨wx.heap.size, 0, none⟩ cap4 (bytesI c2) wy (by rw [hl]; exact hBy) (by omega))
  rw [hl] at HHL HV
  have HD := hide (below_drewN (unhide B0) 1)
  have x00 := (unhide X0).cell 0 rfl
  have x01 := (unhide X0).cell 1 rfl
  have x02 := (unhide X0).cell 2 rfl
  have x03 := (unhide X0).cell 3 rfl
  have x04 := (unhide X0).cell 4 rfl
  have hx0 := (unhide X0).1
  generalize treeV ls = tv at *
  generalize rootR o = rv at *
  generalize (brOf o).key = bk at *
  generalize (brOf o).val = bv at *
  generalize (brOf o).at_ = ba at *
  generalize (brOf o).kids.length = bn at *
  generalize strOfNums (textL (stAt (bytesI c2) (padLen 68 / 64))) = hres at *
  generalize lrV ls o = res at *
  obtain rfl : res = hres := unhide HV
  clear hOl hK hok HV
  go_enter Tryd.func87, Tryd.ntmps87
  go_wp2_with fail
  generalize w.alloc (.cells #[.slice (some ⟨g, 0, none⟩) ls.length gc, .string bk, .string bv, .int .i64 ba, .slice ka bn kc, sv] 63) = w0 at *
  have D1 := hide (below_drewN (Below.refl w0.heap.size w0) 1)
  go_region_law (first
    | (go_simp; go_at_call 95; refine (unhide HHL cap4 w3 w4 hBy).mono ?_; rintro e w5 ⟨rfl, hb5⟩; go_simp)
    | (go_simp; go_at_call 117; refine (unhide HRT _ k2).mono ?_; rintro e w3 ⟨rfl, hb3⟩; (have k3 := k2.trans (hb3.mono k2.size)); (obtain ⟨cap4, w4, hcv, hBy, hb4⟩ := str_bytesB c2 w3 (by unfold maxLen; omega)); rw [hcat] at hcv hBy; go_simp)
    | (go_simp; go_at_call 48; refine (unhide HTR _ (unhide HD)).mono ?_; rintro e w2 ⟨rfl, hb2⟩; (have k2 := (unhide HD).trans (hb2.mono (unhide HD).size)); (have y1 := (hb2.cell (p := ⟨w.heap.size, 1, none⟩) hx0).trans x01); (have y2 := (hb2.cell (p := ⟨w.heap.size, 2, none⟩) hx0).trans x02); (have y3 := (hb2.cell (p := ⟨w.heap.size, 3, none⟩) hx0).trans x03); (have y4 := (hb2.cell (p := ⟨w.heap.size, 4, none⟩) hx0).trans x04); go_simp))
  all_goals
    have K5 := hide (k3.trans ((hb4.trans (hb5.mono hb4.size)).mono k3.size))
    clear hb2 hb3 hb4 hb5 k2 k3 hBy hcv
    go_wp2_with fail
    go_ret
    exact ⟨rfl, unhide K5⟩
set_option maxRecDepth 100000 in
set_option maxHeartbeats 1000000 in
theorem specLedgerRoot_any (ls : List ByteArray) (k v : ByteArray) (a : Int) (ks : List Br) (ss : List Se) (lb lc : Nat) (ka : Option Addr) (kc : Nat) (sa : Option Addr) (sc : Nat) (w : World)
    (hS : SA w lb 0 lc ls) (h : LedR w (.slice (some ⟨lb, 0, none⟩) ls.length lc) (.slice ka ks.length kc) (.slice sa ss.length sc) ls ks ss) (t1 : ∀ i, (ls.getD i ByteArray.empty).size ≤ 1048576) (zk : k.size ≤ maxLen) (zv : v.size ≤ maxLen) (t3 : ∀ i, (ss.getD i default).vl.size ≤ 1048576) :
    Calls Tryd.prog 39 #[.agg #[.slice (some ⟨lb, 0, none⟩) ls.length lc, .string k, .string v, .int .i64 a, .slice ka ks.length kc, .slice sa ss.length sc]] w fun e w' => e = .returned (lrOut ls (.mk k v a ks) ss) ∧ Below w.heap.size w w' := by
  have B0 := hide ((Below.refl w.heap.size w).alloc (Nat.le_refl _) (.cells #[.slice (some ⟨lb, 0, none⟩) ls.length lc, .string k, .string v, .int .i64 a, .slice ka ks.length kc, .slice sa ss.length sc] 63))
  have X0 := hide (Blk.new w #[.slice (some ⟨lb, 0, none⟩) ls.length lc, .string k, .string v, .int .i64 a, .slice ka ks.length kc, .slice sa ss.length sc] 63 w.heap.size rfl)
  have HB := hide (specLedgerOK_any ls k v a ks ss lb 0 lc ka kc sa sc _ (hS.below (unhide B0)) (h.below (unhide B0)) t1 zk zv t3)
  have HOD : Hid (lrOut ls (.mk k v a ks) ss = if ledB ls (.mk k v a ks) ss = true then (match mapV (.mk k v a ks) with | none => .tuple #[.string ⟨#[]⟩, .int .i64 1] | some o => .tuple #[.string (lrV ls o), .int .i64 0]) else .tuple #[.string ⟨#[]⟩, .int .i64 1]) := rfl
  rcases Bool.eq_false_or_eq_true (ledB ls (.mk k v a ks) ss) with hl | hl
  case inr =>
    have HO : Hid (lrOut ls (.mk k v a ks) ss = .tuple #[.string ⟨#[]⟩, .int .i64 1]) := hide (by rw [unhide HOD, if_neg (by rw [hl]; decide)])
    rw [hl] at HB
    clear hS h t1 t3 zk zv HOD
    go_enter Tryd.func39, Tryd.ntmps39
    go_wp2_with fail
    refine (unhide HB).mono ?_
    rintro e w1 ⟨rfl, hb1⟩
    have K1 := hide ((unhide B0).trans (hb1.mono (unhide B0).size))
    clear hb1
    go_wp2_with fail
    go_ret2
    exact ⟨by rw [unhide HO]; rfl, unhide K1⟩
  obtain ⟨h50, hall, hmb, _⟩ := ledB_facts hl
  obtain ⟨o, ho⟩ : ∃ o, mapV (.mk k v a ks) = some o := by
    rw [mapB_V] at hmb
    exact Option.isSome_iff_exists.1 hmb
  obtain ⟨hbr, hok⟩ := mapV_br ho
  have HO : Hid (lrOut ls (.mk k v a ks) ss = .tuple #[.string (lrV ls o), .int .i64 0]) := hide (by rw [unhide HOD, if_pos hl, ho])
  rw [hl] at HB
  obtain rfl : k = (brOf o).key := by rw [← hbr]; rfl
  obtain rfl : v = (brOf o).val := by rw [← hbr]; rfl
  obtain rfl : a = (brOf o).at_ := by rw [← hbr]; rfl
  obtain rfl : ks = (brOf o).kids := by rw [← hbr]; rfl
  have HRT := hide (fun wx (hx : Below w.heap.size w wx) => l09Root_any ls o ss lb lc ka kc (.slice sa ss.length sc) wx (hS.below hx) (h.kv.blw hx) h50 hall hok)
  generalize lrV ls o = res at *
  generalize (brOf o).key = bk at *
  generalize (brOf o).val = bv at *
  generalize (brOf o).at_ = ba at *
  generalize (brOf o).kids = bks at *
  clear hS h t1 t3 zk zv HOD hall hok hbr ho hl hmb
  go_enter Tryd.func39, Tryd.ntmps39
  go_wp2_with fail
  refine (unhide HB).mono ?_
  rintro e w1 ⟨rfl, hb1⟩
  have K1 := hide ((unhide B0).trans (hb1.mono (unhide B0).size))
  have X1 := (unhide X0).below hb1
  have x0 := X1.cell 0 rfl
  have x1 := X1.cell 1 rfl
  have x2 := X1.cell 2 rfl
  have x3 := X1.cell 3 rfl
  have x4 := X1.cell 4 rfl
  have x5 := X1.cell 5 rfl
  clear hb1 X1 X0
  go_wp2_with fail
  refine (unhide HRT w1 (unhide K1)).mono ?_
  rintro e w2 ⟨rfl, hb2⟩
  have K2 := hide ((unhide K1).trans (hb2.mono (unhide K1).size))
  clear hb2
  go_wp2_with fail
  go_ret2
  exact ⟨by rw [unhide HO]; rfl, unhide K2⟩
end Go.Proofs.YthabemlcabmmaaaDoor.Sha
