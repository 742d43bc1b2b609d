/- The root of a map: the specification's. spec.l07Check, spec.CheckKey. spec.MapRoot. The specification's l07Prove; spec.ProveKey. (By py/brz.py.) spec.ProveKey. -/
import Derived.Test.YtnajpeaieeaflaaDoorBrG
import Derived.Test.YtnajpeaieeaflaaDoorBrC
import Derived.Test.YtnajpeaieeaflaaDoorGxD
import Derived.Test.YtnajpeaieeaflaaDoorGxF
import Derived.Test.YtnajpeaieeaflaaDoorGxB
import Derived.Test.YtnajpeaieeaflaaDoorBrY
namespace Go.Proofs.YtnajpeaieeaflaaDoor.Sha
open Go.ChangeShapes Go.WideShapes Go.ChangeAt Go.RowKit
set_option linter.unusedVariables false
set_option linter.unusedSimpArgs false

theorem range_two {x y : Int} {xs : List Int} (h0 : 0 ≤ x) (h1 : x ≤ 255) (h2 : 0 ≤ y) (h3 : y ≤ 255) (h : ∀ i, 0 ≤ xs.getD i 0 ∧ xs.getD i 0 ≤ 255) : ∀ i, 0 ≤ (x :: y :: xs).getD i 0 ∧ (x :: y :: xs).getD i 0 ≤ 255 := range_cons h0 h1 (range_cons h2 h3 h)
theorem l01Hash_two (x y : Int) (a b : ByteArray) (g cap : Nat) (w : World) (ha : a.size ≤ 60) (hb : b.size ≤ 60) (h : Bytes w (.slice (some ⟨g, 0, none⟩) (2 + a.size + b.size) cap) (x :: y :: (bytesI a ++ bytesI b))) :
    Calls Tryd.prog 36 #[.slice (some ⟨g, 0, none⟩) (2 + a.size + b.size) cap] w fun e w' => e = .returned (.string (hashV (x :: y :: (bytesI a ++ bytesI b)))) ∧ Below w.heap.size w w' := by
  have hl : (x :: y :: (bytesI a ++ bytesI b)).length = 2 + a.size + b.size := by simp [bytesI_len]; omega
  rw [hashV_yes (by omega)]
  rw [← hl] at h ⊢
  exact l01Hash_any _ _ _ w h (by omega)
set_option maxRecDepth 100000 in
set_option maxHeartbeats 1000000 in
theorem l07LeafHash_any (a b : ByteArray) (w : World) (ha : a.size ≤ 24) (hb : b.size ≤ 60) :
    Calls Tryd.prog 40 #[.string a, .string b] w fun e w' => e = .returned (.string (lfR a b)) ∧ Below w.heap.size w w' := by
  obtain ⟨i0, hi, hz0, hz1, hz2⟩ := info_parts info5
  have hq : IntKind.u8.wrap (a.size : Int) = (a.size : Int) := wraps_u8 _ (by omega) (by omega)
  have O0 : Hid ((w.alloc (.cells #[.int .u8 0, .int .u8 a.size] 5)).ownsRow w.heap.size 5 1 (.slice (some ⟨w.heap.size, 0, none⟩) 2 2) 2 [.int .u8 0, .int .u8 a.size]) := hide (own_lit (heap_new rfl) (Nat.le_refl _) rfl (by unfold maxLen; omega))
  have B0 := hide ((Below.refl w.heap.size w).alloc (Nat.le_refl _) (.cells #[.int .u8 0, .int .u8 a.size] 5))
  have HV : Hid (lfR a b = hashV (0 :: (a.size : Int) :: (bytesI a ++ bytesI b))) := rfl
  go_enter Tryd.func40, Tryd.ntmps40
  go_wp2_with (at_builtin; first
    | (refine wpList_append_str _ rfl _ _ _ _ rfl w.heap.size 5 i0 Tryd.underlying22 Tryd.underlying9 hi hz0 hz1 hz2 _ (2 + a.size) _ rfl (unhide O1) b rfl (by omega) (by omega) (by have := (unhide B1).size; omega) ?_; intro g2 cap2 w2 hown2 hgrow2 hat2; have O2 := hide hown2; have B2 := hide ((unhide B1).grown hgrow2 (by have := (unhide B1).size; omega) (fun r hr => ((unhide O1).lt r hr).1)); clear hown2 hgrow2 hat2)
    | (refine wpList_append_str _ rfl _ _ _ _ rfl w.heap.size 5 i0 Tryd.underlying22 Tryd.underlying9 hi hz0 hz1 hz2 _ 2 _ rfl (unhide O0) a rfl (by omega) (by omega) (by simp) ?_; intro g1 cap1 w1 hown1 hgrow1 hat1; have O1 := hide hown1; have B1 := hide ((unhide B0).grown hgrow1 (by simp) (fun r hr => ((unhide O0).lt r hr).1)); clear hown1 hgrow1 hat1))
  have hx : Bytes w2 (.slice (some ⟨g2, 0, none⟩) (2 + a.size + b.size) cap2) (0 :: (a.size : Int) :: (bytesI a ++ bytesI b)) := by
    have hl : (0 :: (a.size : Int) :: (bytesI a ++ bytesI b)).length = 2 + a.size + b.size := by simp [bytesI_len]; omega
    rw [← hl]
    refine OwnB.bytes (B := w.heap.size) ⟨?_, range_two (by omega) (by omega) (by omega) (by omega) (range_append (bytesI_range a) (bytesI_range b))⟩
    have h := unhide O2
    rw [strCells_eq, strCells_eq] at h
    rw [hl]
    simpa using h
  have HL := hide (l01Hash_two _ _ a b g2 cap2 w2 (by omega) (by omega) hx)
  clear hx
  refine (unhide HL).mono ?_
  rintro e w3 ⟨rfl, hb3⟩
  have K := hide ((unhide B2).trans (hb3.mono (unhide B2).size))
  clear hb3
  rw [← unhide HV]
  go_wp2_with fail
  go_ret
  exact ⟨rfl, unhide K⟩
set_option maxRecDepth 100000 in
set_option maxHeartbeats 1000000 in
theorem l07ForkHash_any (n : Nat) (a b : ByteArray) (w : World) (hn : n < 256) (ha : a.size = 32) (hb : b.size = 32) :
    Calls Tryd.prog 71 #[.int .i64 n, .string a, .string b] w fun e w' => e = .returned (.string (fkR n a b)) ∧ Below w.heap.size w w' := by
  obtain ⟨i0, hi, hz0, hz1, hz2⟩ := info_parts info5
  have hq : IntKind.u8.wrap (n : Int) = (n : Int) := wraps_u8 _ (by omega) (by omega)
  have O0 : Hid ((w.alloc (.cells #[.int .u8 1, .int .u8 n] 5)).ownsRow w.heap.size 5 1 (.slice (some ⟨w.heap.size, 0, none⟩) 2 2) 2 [.int .u8 1, .int .u8 n]) := hide (own_lit (heap_new rfl) (Nat.le_refl _) rfl (by unfold maxLen; omega))
  have B0 := hide ((Below.refl w.heap.size w).alloc (Nat.le_refl _) (.cells #[.int .u8 1, .int .u8 n] 5))
  have HV : Hid (fkR n a b = hashV (1 :: (n : Int) :: (bytesI a ++ bytesI b))) := rfl
  have ha2 : a.size ≤ 32 := by omega
  have hb2 : b.size ≤ 32 := by omega
  clear ha hb
  go_enter Tryd.func71, Tryd.ntmps71
  go_wp2_with (at_builtin; first
    | (refine wpList_append_str _ rfl _ _ _ _ rfl w.heap.size 5 i0 Tryd.underlying22 Tryd.underlying9 hi hz0 hz1 hz2 _ (2 + a.size) _ rfl (unhide O1) b rfl (by omega) (by omega) (by have := (unhide B1).size; omega) ?_; intro g2 cap2 w2 hown2 hgrow2 hat2; have O2 := hide hown2; have B2 := hide ((unhide B1).grown hgrow2 (by have := (unhide B1).size; omega) (fun r hr => ((unhide O1).lt r hr).1)); clear hown2 hgrow2 hat2)
    | (refine wpList_append_str _ rfl _ _ _ _ rfl w.heap.size 5 i0 Tryd.underlying22 Tryd.underlying9 hi hz0 hz1 hz2 _ 2 _ rfl (unhide O0) a rfl (by omega) (by omega) (by simp) ?_; intro g1 cap1 w1 hown1 hgrow1 hat1; have O1 := hide hown1; have B1 := hide ((unhide B0).grown hgrow1 (by simp) (fun r hr => ((unhide O0).lt r hr).1)); clear hown1 hgrow1 hat1))
  have hx : Bytes w2 (.slice (some ⟨g2, 0, none⟩) (2 + a.size + b.size) cap2) (1 :: (n : Int) :: (bytesI a ++ bytesI b)) := by
    have hl : (1 :: (n : Int) :: (bytesI a ++ bytesI b)).length = 2 + a.size + b.size := by simp [bytesI_len]; omega
    rw [← hl]
    refine OwnB.bytes (B := w.heap.size) ⟨?_, range_two (by omega) (by omega) (by omega) (by omega) (range_append (bytesI_range a) (bytesI_range b))⟩
    have h := unhide O2
    rw [strCells_eq, strCells_eq] at h
    rw [hl]
    simpa using h
  have HL := hide (l01Hash_two _ _ a b g2 cap2 w2 (by omega) (by omega) hx)
  clear hx
  refine (unhide HL).mono ?_
  rintro e w3 ⟨rfl, hb3⟩
  have K := hide ((unhide B2).trans (hb3.mono (unhide B2).size))
  clear hb3
  rw [← unhide HV]
  go_wp2_with fail
  go_ret
  exact ⟨rfl, unhide K⟩
set_option maxRecDepth 100000 in
set_option maxHeartbeats 4000000 in
theorem l07Root_any : ∀ (t : Tr), TrOK t → ∀ (S : Nat → Prop) (kv : Value) (w : World), Brs S w kv t.toBr.kids →
    Calls Tryd.prog 61 #[.agg #[.string t.toBr.key, .string t.toBr.val, .int .i64 t.toBr.at_, kv]] w fun e w' => e = .returned (.string (trR t)) ∧ Below w.heap.size w w' := by
  intro t
  induction t with
  | leaf k v =>
    intro hok S kv w hB
    obtain ⟨sa, cap, rfl, _, hcm⟩ := hB.shape
    have HNE := not_empty hok
    have hk := (okK_iff.1 hok.1).2
    have hv : v.size ≤ 60 := hok.2
    dsimp only [Tr.toBr, Br.key, Br.val, Br.at_, Br.kids] at HNE ⊢
    have B0 := hide ((Below.refl w.heap.size w).alloc (Nat.le_refl _) (.cells #[.string k, .string v, .int .i64 256, .slice sa 0 cap] 25))
    have X0 := hide (Blk.new w #[.string k, .string v, .int .i64 256, .slice sa 0 cap] 25 w.heap.size rfl)
    have HE := hide (fun wx => l07Empty_any k v 256 [] sa cap wx (by simp))
    have HLF := hide (fun wx => l07Leaf_any k v 256 sa 0 cap wx (by omega))
    rw [HNE] at HE
    simp only [List.length_nil] at HE
    rw [show decide (0 = 0) = true from rfl] at HLF
    have HLH := hide (fun wx => l07LeafHash_any k v wx hk hv)
    have HV : Hid (trR (.leaf k v) = lfR k v) := rfl
    clear hB hok HNE
    go_enter Tryd.func61, Tryd.ntmps61
    go_wp2_with fail
    generalize w.alloc (.cells #[.string k, .string v, .int .i64 256, .slice sa 0 cap] 25) = w1 at *
    refine (unhide HE w1).mono ?_
    rintro e w2 ⟨rfl, hb2⟩
    have B2 := hide ((unhide B0).trans (hb2.mono (unhide B0).size))
    have X2 := hide ((unhide X0).below hb2)
    clear hb2
    have x0 := (unhide X2).cell 0 rfl
    have x1 := (unhide X2).cell 1 rfl
    have x2 := (unhide X2).cell 2 rfl
    have x3 := (unhide X2).cell 3 rfl
    go_wp2_with fail
    refine (unhide HLF w2).mono ?_
    rintro e w3 ⟨rfl, hb3⟩
    have B3 := hide ((unhide B2).trans (hb3.mono (unhide B2).size))
    have X3 := hide ((unhide X2).below hb3)
    clear hb3 x0 x1 x2 x3
    have x0 := (unhide X3).cell 0 rfl
    have x1 := (unhide X3).cell 1 rfl
    go_wp2_with fail
    refine (unhide HLH w3).mono ?_
    rintro e w4 ⟨rfl, hb4⟩
    have B4 := hide ((unhide B3).trans (hb4.mono (unhide B3).size))
    clear hb4
    rw [← unhide HV]
    go_wp2_with fail
    go_ret
    exact ⟨rfl, unhide B4⟩
  | fork a hh l r ihl ihr =>
    intro hok S kv w hB
    obtain ⟨sa, cap, rfl, _, hcm⟩ := hB.shape
    have HNE := not_empty hok
    obtain ⟨ha, _, okl, okr⟩ := hok
    dsimp only [Tr.toBr, Br.key, Br.val, Br.at_, Br.kids] at HNE hB ⊢
    have B0 := hide ((Below.refl w.heap.size w).alloc (Nat.le_refl _) (.cells #[.string ⟨#[]⟩, .string ⟨#[]⟩, .int .i64 a, .slice sa 2 cap] 25))
    have X0 := hide (Blk.new w #[.string ⟨#[]⟩, .string ⟨#[]⟩, .int .i64 a, .slice sa 2 cap] 25 w.heap.size rfl)
    have HE := hide (fun wx => l07Empty_any ⟨#[]⟩ ⟨#[]⟩ a [l.toBr, r.toBr] sa cap wx (by unfold maxLen; simp))
    have HLF := hide (fun wx => l07Leaf_any ⟨#[]⟩ ⟨#[]⟩ a sa 2 cap wx (by unfold maxLen; omega))
    rw [HNE] at HE
    rw [show decide (2 = 0) = false from rfl] at HLF
    obtain ⟨bb, off, kvf, rfl, _, hat⟩ := hB.at (by simp)
    have hbb := hat.lt
    obtain ⟨s00, s01, s02, s03⟩ := hat.cells 0 (by simp)
    obtain ⟨s10, s11, s12, s13⟩ := hat.cells 1 (by simp)
    have K0 := hide (hat.kids 0 (by simp))
    have K1 := hide (hat.kids 1 (by simp))
    simp only [List.getD_cons_zero, List.getD_cons_succ, Nat.zero_mul, Nat.add_zero, Nat.one_mul] at s00 s01 s02 s03 s10 s11 s12 s13 K0 K1
    obtain ⟨ka0, kc0, hkv0, _, _⟩ := (unhide K0).shape
    obtain ⟨ka1, kc1, hkv1, _, _⟩ := (unhide K1).shape
    rw [hkv0] at K0 s03
    rw [hkv1] at K1 s13
    have HL := hide (fun wx (hx : Below w.heap.size w wx) => ihl okl S _ wx ((unhide K0).blw hx))
    have HR := hide (fun wx (hx : Below w.heap.size w wx) => ihr okr S _ wx ((unhide K1).blw hx))
    have HF := hide (fun wx => l07ForkHash_any a (trR l) (trR r) wx ha (trR_size l okl) (trR_size r okr))
    have HV : Hid (trR (.fork a hh l r) = fkR a (trR l) (trR r)) := rfl
    clear hB hat hkv0 hkv1 K0 K1 ihl ihr HNE
    generalize l.toBr = b0 at *
    generalize r.toBr = b1 at *
    generalize trR l = rl at *
    generalize trR r = rr at *
    simp only [List.length_cons, List.length_nil] at HE
    go_enter Tryd.func61, Tryd.ntmps61
    go_wp2_with fail
    generalize w.alloc (.cells #[.string ⟨#[]⟩, .string ⟨#[]⟩, .int .i64 a, .slice (some ⟨bb, off, none⟩) 2 cap] 25) = w1 at *
    refine (unhide HE w1).mono ?_
    rintro e w2 ⟨rfl, hb2⟩
    have B2 := hide ((unhide B0).trans (hb2.mono (unhide B0).size))
    have X2 := hide ((unhide X0).below hb2)
    clear hb2
    have x0 := (unhide X2).cell 0 rfl
    have x1 := (unhide X2).cell 1 rfl
    have x2 := (unhide X2).cell 2 rfl
    have x3 := (unhide X2).cell 3 rfl
    go_wp2_with fail
    refine (unhide HLF w2).mono ?_
    rintro e w3 ⟨rfl, hb3⟩
    have B3 := hide ((unhide B2).trans (hb3.mono (unhide B2).size))
    have X3 := hide ((unhide X2).below hb3)
    clear hb3 x0 x1 x2 x3
    have hX := (unhide X3).1
    have hw3 := (unhide B3).size
    have HSX : Hid (∀ wx, Below w3.heap.size w3 wx → wx.cell? ⟨w.heap.size, 2, none⟩ = some (.int .i64 a) ∧ wx.cell? ⟨w.heap.size, 3, none⟩ = some (.slice (some ⟨bb, off, none⟩) 2 cap) ∧ wx.cell? ⟨bb, off, none⟩ = some (.string b0.key) ∧ wx.cell? ⟨bb, off + 1, none⟩ = some (.string b0.val) ∧ wx.cell? ⟨bb, off + 2, none⟩ = some (.int .i64 b0.at_) ∧ wx.cell? ⟨bb, off + 3, none⟩ = some (.slice ka0 b0.kids.length kc0) ∧ wx.cell? ⟨bb, off + 4, none⟩ = some (.string b1.key) ∧ wx.cell? ⟨bb, off + 4 + 1, none⟩ = some (.string b1.val) ∧ wx.cell? ⟨bb, off + 4 + 2, none⟩ = some (.int .i64 b1.at_) ∧ wx.cell? ⟨bb, off + 4 + 3, none⟩ = some (.slice ka1 b1.kids.length kc1)) := hide (fun wx hb => by
      have hb' := (unhide B3).trans (hb.mono hw3)
      have X := (unhide X3).below hb
      exact ⟨X.cell 2 rfl, X.cell 3 rfl, (hb'.cell (p := ⟨bb, off, none⟩) hbb).trans s00, (hb'.cell (p := ⟨bb, off + 1, none⟩) hbb).trans s01, (hb'.cell (p := ⟨bb, off + 2, none⟩) hbb).trans s02, (hb'.cell (p := ⟨bb, off + 3, none⟩) hbb).trans s03, (hb'.cell (p := ⟨bb, off + 4, none⟩) hbb).trans s10, (hb'.cell (p := ⟨bb, off + 4 + 1, none⟩) hbb).trans s11, (hb'.cell (p := ⟨bb, off + 4 + 2, none⟩) hbb).trans s12, (hb'.cell (p := ⟨bb, off + 4 + 3, none⟩) hbb).trans s13⟩)
    obtain ⟨y2, y3, t00, t01, t02, t03, t10, t11, t12, t13⟩ := unhide HSX w3 (Below.refl _ _)
    clear s00 s01 s02 s03 s10 s11 s12 s13
    go_wp2_with fail
    go_region_held3 (fun wx => wx.cell? ⟨w.heap.size, 2, none⟩ = some (.int .i64 a) ∧ wx.cell? ⟨w.heap.size, 3, none⟩ = some (.slice (some ⟨bb, off, none⟩) 2 cap) ∧ wx.cell? ⟨bb, off, none⟩ = some (.string b0.key) ∧ wx.cell? ⟨bb, off + 1, none⟩ = some (.string b0.val) ∧ wx.cell? ⟨bb, off + 2, none⟩ = some (.int .i64 b0.at_) ∧ wx.cell? ⟨bb, off + 3, none⟩ = some (.slice ka0 b0.kids.length kc0) ∧ wx.cell? ⟨bb, off + 4, none⟩ = some (.string b1.key) ∧ wx.cell? ⟨bb, off + 4 + 1, none⟩ = some (.string b1.val) ∧ wx.cell? ⟨bb, off + 4 + 2, none⟩ = some (.int .i64 b1.at_) ∧ wx.cell? ⟨bb, off + 4 + 3, none⟩ = some (.slice ka1 b1.kids.length kc1)) (first | go_keep | exact unhide HSX _ hc3 | exact unhide HSX _ hc2 | exact unhide HSX _ hc1) (first
      | (go_at_call 71; refine (unhide HF w5).mono ?_; rintro e w6 ⟨rfl, hb6⟩; have hc3 := hc2.trans (hb6.mono hc2.size))
      | (go_at_call 61; refine (unhide HR _ ((unhide B3).trans (hc1.mono hw3))).mono ?_; rintro e w5 ⟨rfl, hb5⟩; have hc2 := hc1.trans (hb5.mono hc1.size))
      | (go_at_call 61; refine (unhide HL _ ((unhide B3).trans (((Below.refl _ w3).drew).mono hw3))).mono ?_; rintro e w4 ⟨rfl, hb4⟩; have hc1 : Below w3.heap.size w3 w4 := ((Below.refl _ w3).drew).trans hb4))
    have K := hide ((unhide B3).trans (hc3.mono hw3))
    clear hb4 hb5 hb6 hc1 hc2 hc3 y2 y3 t00 t01 t02 t03 t10 t11 t12 t13
    rw [← unhide HV]
    go_wp2_with fail
    go_ret
    exact ⟨rfl, unhide K⟩
end Go.Proofs.YtnajpeaieeaflaaDoor.Sha
namespace Go.Proofs.YtnajpeaieeaflaaDoor.Sha
open Go.ChangeShapes Go.WideShapes Go.ChangeAt Go.RowKit
set_option linter.unusedVariables false
set_option linter.unusedSimpArgs false

set_option maxRecDepth 100000 in
set_option maxHeartbeats 4000000 in
theorem l07Check_any (h leaf : ByteArray) (a : Option Addr) (cap : Nat) (l : List Pk) (w : World) (hp : Pks w (.slice a l.length cap) l) (hs : stepsB 0 l) (hh : h.size = 32) (hl : leaf.size = 32) :
    Calls Tryd.prog 39 #[.string h, .slice a l.length cap, .string leaf] w fun e w' => e = .returned (.string (rootBy h leaf l)) ∧ Below w.heap.size w w' := by
  have hle := stepsB_len l 0 hs (by omega)
  have H0 := hide hp
  have HG := hide (fun i hi => stepsB_get l 0 hs i hi)
  have HD := hide (fun q (hq : q < l.length) => rootBy_drop h leaf l hq)
  have HZ := hide (fun k => rootBy_dsize h hl l hs k)
  have w0 : IntKind.i64.wrap ((l.length : Int) - 1) = (l.length : Int) - 1 := by
    simp only [IntKind.wrap, IntKind.bits, IntKind.signed]
    simp
    omega
  have HE : Hid (rootBy h leaf (l.drop l.length) = leaf) := hide (by rw [List.drop_length]; rfl)
  have HS : Hid (rootBy h leaf (l.drop 0) = rootBy h leaf l) := hide (by rw [List.drop_zero])
  clear hp hs
  go_enter Tryd.func39, Tryd.ntmps39
  go_wp2_with fail
  go_loopw [7, 8] (fun ov i wr => ∃ (k : Nat) (z : Int), k ≤ l.length ∧ z = (k : Int) - 1 ∧ i = .int .i64 z ∧ ov = .string (rootBy h leaf (l.drop k)) ∧ Below w.heap.size w wr) (fun _ i _ => (intOf i + 1).toNat)
  case atStart => exact ⟨l.length, _, Nat.le_refl _, rfl, rfl, by rw [unhide HE], Below.refl _ _⟩
  case round =>
    obtain ⟨k, z, hk, hz, rfl, rfl, hb⟩ := hrel
    rcases k with _ | q
    · obtain rfl : z = -1 := by omega
      clear hz
      rw [unhide HS]
      have HB := hide hb
      clear hb
      go_wp2_with fail
      go_ret
      exact ⟨rfl, unhide HB⟩
    · obtain rfl : z = (q : Int) := by omega
      clear hz
      have hlt : q < l.length := by omega
      obtain ⟨g, off, rfl, hgl, c0, c1⟩ := pks_term ((unhide H0).below hb) q hlt
      have hk0 : (0 : Int) ≤ (q : Int) := by omega
      have hk1 : (q : Int) < (l.length : Int) := by omega
      obtain ⟨n, en, hn0, hn1, hn2⟩ := unhide HG q hlt
      have HDQ := hide (unhide HD q hlt)
      have hz1 := unhide HZ (q + 1)
      have m2 : IntKind.i64.wrap ((q : Int) - 1) = (q : Int) - 1 := by
        simp only [IntKind.wrap, IntKind.bits, IntKind.signed]
        simp
        omega
      have HB := hide hb
      have hbs := hb.size
      clear hb
      generalize l.getD q default = ff at *
      generalize rootBy h leaf (l.drop (q + 1)) = r1 at *
      obtain ⟨s, x⟩ := ff
      dsimp only at c0 c1 en hn2 HDQ
      subst en
      rw [Int.toNat_natCast] at HDQ
      have I1 := hide (l07Bit_any h n wr hh hn1)
      have F1 := hide (fun wx => l07ForkHash_any n r1 x wx hn1 hz1 hn2)
      have F2 := hide (fun wx => l07ForkHash_any n x r1 wx hn1 hn2 hz1)
      unfold sideR at HDQ
      generalize bitN h n = b at *
      go_wp2_with fail
      refine (unhide I1).mono ?_
      rintro e w9 ⟨rfl, hw9⟩
      subst w9
      clear I1
      by_cases hb0 : b = 0
      · subst hb0
        rw [if_pos rfl] at HDQ
        go_upto_region 6 with fail
        refine wp_region_noPanic ?_
        refine wp_region_held_drew (S := (fun wx => wx.cell? ⟨g, off + q * 2, none⟩ = some (.int .i64 (n : Int)) ∧ wx.cell? ⟨g, off + q * 2 + 1, none⟩ = some (.string x))) (by kernel_rfl) ?_ (fun hHeld => ?_)
        · exact ⟨c0, c1⟩
        refine tkH 0 rfl ?_
        refine tkH 1 rfl ?_
        refine tkH 2 rfl ?_
        refine tkH 3 rfl ?_
        refine tkH 4 rfl ?_
        refine tkH 5 rfl ?_
        refine tkH 6 rfl ?_
        refine tkH 7 rfl ?_
        refine tkH 8 rfl ?_
        refine tkH 9 rfl ?_
        refine tkH 10 rfl ?_
        refine wpAnyH_ready (rs := [11]) (by kernel_rfl) (by simp) ?_
        refine AllReadyH.cons (o := _) rfl (fun K hK => ?_) AllReadyH.nil
        go_simp
        refine (unhide F1 _).mono ?_
        rintro e w2 ⟨rfl, hb2⟩
        have HB2 := hide ((unhide HB).trans ((show Below wr.heap.size wr w2 from (below_drewN (Below.refl _ wr) 1).trans hb2).mono hbs))
        replace hb2 : Below wr.heap.size wr w2 := (below_drewN (Below.refl _ wr) 1).trans hb2
        go_wp2_with fail
        refine hK.out _ _ ?_ (fun hHeld => ?_)
        · exact ⟨(hb2.cell (p := ⟨g, off + q * 2, none⟩) hgl).trans c0, (hb2.cell (p := ⟨g, off + q * 2 + 1, none⟩) hgl).trans c1⟩
        clear hK K
        (try simp only [Act.put, List.getElem_toArray, List.getElem_cons_succ, List.getElem_cons_zero, List.setIfInBounds_toArray, List.set_cons_zero, List.set_cons_succ])
        refine tkH 12 rfl ?_
        refine wpAnyH_done (by kernel_rfl) (NoPanic.normal ?_) _
        clear F1 F2 hHeld hb2
        go_wp2_with fail
        refine ⟨⟨q, _, by omega, rfl, by go_num, by rw [unhide HDQ], unhide HB2⟩, ?_⟩
        first | (simp [intOf]; done) | (simp [intOf]; omega)
      · have hbb : (b == 0) = false := by rw [beq_eq_false_iff_ne]; exact hb0
        rw [if_neg hb0] at HDQ
        go_upto_region 7 with fail
        refine wp_region_noPanic ?_
        refine wp_region_held_drew (S := (fun wx => wx.cell? ⟨g, off + q * 2, none⟩ = some (.int .i64 (n : Int)) ∧ wx.cell? ⟨g, off + q * 2 + 1, none⟩ = some (.string x))) (by kernel_rfl) ?_ (fun hHeld => ?_)
        · exact ⟨c0, c1⟩
        refine tkH 0 rfl ?_
        refine tkH 1 rfl ?_
        refine tkH 2 rfl ?_
        refine tkH 3 rfl ?_
        refine tkH 4 rfl ?_
        refine tkH 5 rfl ?_
        refine tkH 6 rfl ?_
        refine tkH 7 rfl ?_
        refine tkH 8 rfl ?_
        refine tkH 9 rfl ?_
        refine tkH 10 rfl ?_
        refine wpAnyH_ready (rs := [11]) (by kernel_rfl) (by simp) ?_
        refine AllReadyH.cons (o := _) rfl (fun K hK => ?_) AllReadyH.nil
        go_simp
        refine (unhide F2 _).mono ?_
        rintro e w2 ⟨rfl, hb2⟩
        have HB2 := hide ((unhide HB).trans ((show Below wr.heap.size wr w2 from (below_drewN (Below.refl _ wr) 1).trans hb2).mono hbs))
        replace hb2 : Below wr.heap.size wr w2 := (below_drewN (Below.refl _ wr) 1).trans hb2
        go_wp2_with fail
        refine hK.out _ _ ?_ (fun hHeld => ?_)
        · exact ⟨(hb2.cell (p := ⟨g, off + q * 2, none⟩) hgl).trans c0, (hb2.cell (p := ⟨g, off + q * 2 + 1, none⟩) hgl).trans c1⟩
        clear hK K
        (try simp only [Act.put, List.getElem_toArray, List.getElem_cons_succ, List.getElem_cons_zero, List.setIfInBounds_toArray, List.set_cons_zero, List.set_cons_succ])
        refine tkH 12 rfl ?_
        refine wpAnyH_done (by kernel_rfl) (NoPanic.normal ?_) _
        clear F1 F2 hHeld hb2
        go_wp2_with fail
        refine ⟨⟨q, _, by omega, rfl, by go_num, by rw [unhide HDQ], unhide HB2⟩, ?_⟩
        first | (simp [intOf]; done) | (simp [intOf]; omega)
/-- A proof in a box of the call's. -/
structure Pb (w0 : World) (P : Nat) (f : Bool) (k v : ByteArray) (a : Option Addr) (cap : Nat) (l : List Pk) (w : World) : Prop where
  x : Blk w P [.bool f, .string k, .string v, .slice a l.length cap]
  b0 : Below w0.heap.size w0 w
  p : Pks w (.slice a l.length cap) l
theorem Pb.below {w0 : World} {P : Nat} {f : Bool} {k v : ByteArray} {a : Option Addr} {cap : Nat} {l : List Pk} {w w' : World} (h : Pb w0 P f k v a cap l w) (hb : Below w.heap.size w w') : Pb w0 P f k v a cap l w' :=
  ⟨h.x.below hb, h.b0.trans (hb.mono h.b0.size), h.p.below hb⟩
set_option maxRecDepth 100000 in
set_option maxHeartbeats 8000000 in
theorem specCheckKey_any (root key : ByteArray) (f : Bool) (k v : ByteArray) (a : Option Addr) (cap : Nat) (l : List Pk) (w : World) (hp : Pks w (.slice a l.length cap) l) (hs : stepsB 0 l) (hr : root.size = 32) (hk : okK key = true) (hkz : k.size ≤ 24) (hv : v.size ≤ 60) :
    Calls Tryd.prog 13 #[.string root, .string key, .agg #[.bool f, .string k, .string v, .slice a l.length cap]] w fun e w' => e = .returned (.int .i64 (ckOut root key f k v l)) ∧ Below w.heap.size w w' := by
  have hkk := okK_iff.1 hk
  have hle := stepsB_len l 0 hs (by omega)
  have B0 := (Below.refl w.heap.size w).alloc (Nat.le_refl _) (.cells #[.bool f, .string k, .string v, .slice a l.length cap] 32)
  have M0 := hide (show Pb w w.heap.size f k v a cap l (w.alloc (.cells #[.bool f, .string k, .string v, .slice a l.length cap] 32)) from ⟨Blk.new w #[.bool f, .string k, .string v, .slice a l.length cap] 32 w.heap.size rfl, B0, hp.below B0⟩)
  have HO : Hid (ckOut root key f k v l = if k.size = 0 then (if f = false ∧ v.size = 0 ∧ l.length = 0 ∧ root = hashV [2] then 0 else 10)
    else if okK k = true ∧ f = decide (k = key) then (if wayB (kh key) (kh k) l = true then (if rootBy (kh key) (lfR k v) l = root then 0 else 11) else 10) else 10) := rfl
  have H1 := hide (fun wx => l02Keyb_any key wx (by unfold maxLen; omega))
  rw [hk] at H1
  have H2 := hide (fun wx => l02Keyb_any k wx (by unfold maxLen; omega))
  have hks : (kh key).size = 32 := kh_size (by omega)
  have hks2 : (kh k).size = 32 := kh_size (by omega)
  have H3 := hide (fun wx => l07Hash_any key wx (by omega))
  have H4 := hide (fun wx => l07Hash_any k wx (by omega))
  have H5 := hide (fun wx => l07LeafHash_any k v wx hkz hv)
  have H6 := hide (fun wx (hx : Pks wx (.slice a l.length cap) l) => l07Check_any (kh key) (lfR k v) a cap l wx hx hs hks (lfR_size hkz hv))
  have HB1 := hide (fun (n : Nat) wx (hn : n < 256) => l07Bit_any (kh key) n wx hks hn)
  have HB2 := hide (fun (n : Nat) wx (hn : n < 256) => l07Bit_any (kh k) n wx hks2 hn)
  have HG := hide (fun i hi => stepsB_get l 0 hs i hi)
  have HN := hide (fun i hi => stepsB_next l 0 hs i hi)
  have HWD := hide (fun q (hq : q < l.length) => wayB_drop (kh key) (kh k) l hq)
  have HWE : Hid (wayB (kh key) (kh k) (l.drop l.length) = true) := hide (by rw [List.drop_length]; rfl)
  have HWZ : Hid (wayB (kh key) (kh k) (l.drop 0) = wayB (kh key) (kh k) l) := hide (by rw [List.drop_zero])
  have hll : (l.length : Int) ≤ 256 := by omega
  have hkm : (key.size : Int) ≤ 24 := by omega
  have hkm2 : (k.size : Int) ≤ 24 := by omega
  have hvm : (v.size : Int) ≤ 60 := by omega
  clear hp hs hk hks hks2 B0
  generalize hO : ckOut root key f k v l = out at *
  clear hO
  have m0 := (unhide M0).x.cell 0 rfl
  have m1 := (unhide M0).x.cell 1 rfl
  have m2 := (unhide M0).x.cell 2 rfl
  have m3 := (unhide M0).x.cell 3 rfl
  go_enter Tryd.func13, Tryd.ntmps13
  go_wp2_with fail
  refine (unhide H1 _).mono ?_
  rintro e w9 ⟨rfl, hw9⟩
  subst w9
  clear H1
  generalize hw0 : w.alloc (.cells #[.bool f, .string k, .string v, .slice a l.length cap] 32) = w0 at *
  clear hw0
  go_wp2_with fail
  go_loopw [7] (fun i wr => ∃ q : Nat, q ≤ l.length ∧ i = .int .i64 q ∧ Pb w w.heap.size f k v a cap l wr) (fun i _ => l.length - (intOf i).toNat)
  case atStart => exact ⟨0, Nat.zero_le _, rfl, unhide M0⟩
  case round =>
    obtain ⟨q, hq, rfl, hM⟩ := hrel
    clear m0 m1 m2 m3 M0
    have m0 := hM.x.cell 0 rfl
    have m1 := hM.x.cell 1 rfl
    have m2 := hM.x.cell 2 rfl
    have m3 := hM.x.cell 3 rfl
    by_cases hlt : q < l.length
    · obtain ⟨g, off, rfl, hgl, c0, c1⟩ := pks_term hM.p q hlt
      have hk0 : (0 : Int) ≤ (q : Int) := by omega
      have hk1 : (q : Int) < (l.length : Int) := by omega
      obtain ⟨n, en, hn0, hn1, hn2⟩ := unhide HG q hlt
      have HQ0 : Hid (∀ r, q = r + 1 → True) := hide (fun _ _ => trivial)
      by_cases hq0 : q = 0
      · have MM := hide hM
        clear hM
        have j3 : ¬ (0 : Int) < (q : Int) := by omega
        have j3n : ¬ 0 < q := by omega
        clear hq0
        generalize l.getD q default = ff at *
        obtain ⟨s, x⟩ := ff
        dsimp only at c0 c1 en hn2
        subst en
        have I1 := hide (fun wx => l01In_any n 0 255 wx)
        rw [show inB (n : Int) 0 255 = true from inB_iff.2 ⟨by omega, by omega⟩] at I1
        go_upto_region 10 with fail
        refine wp_region_noPanic ?_
        refine wp_region_held_drew (S := (fun wx => wx.cell? ⟨w.heap.size, 3, none⟩ = some (.slice (some ⟨g, off, none⟩) l.length cap) ∧ wx.cell? ⟨g, off + q * 2, none⟩ = some (.int .i64 (n : Int)) ∧ wx.cell? ⟨g, off + q * 2 + 1, none⟩ = some (.string x))) (by kernel_rfl) ?_ (fun hHeld => ?_)
        · exact ⟨m3, c0, c1⟩
        refine tkH 0 rfl ?_
        refine tkH 1 rfl ?_
        refine tkH 2 rfl ?_
        refine tkH 3 rfl ?_
        refine tkH 4 rfl ?_
        refine tkH 5 rfl ?_
        refine wpAnyH_ready (rs := [6]) (by kernel_rfl) (by simp) ?_
        refine AllReadyH.cons (o := _) rfl (fun K hK => ?_) AllReadyH.nil
        go_simp
        refine (unhide I1 _).mono ?_
        rintro e w9 ⟨rfl, hw9⟩
        subst w9
        go_wp2_with fail
        refine hK.out _ _ ?_ (fun hHeld => ?_)
        · exact ⟨m3, c0, c1⟩
        clear hK K
        (try simp only [Act.put, List.getElem_toArray, List.getElem_cons_succ, List.getElem_cons_zero, List.setIfInBounds_toArray, List.set_cons_zero, List.set_cons_succ])
        refine tkH 7 rfl ?_
        refine tkH 8 rfl ?_
        refine tkH 9 rfl ?_
        refine tkH 10 rfl ?_
        refine tkH 11 rfl ?_
        refine wpAnyH_take (i := 12) (oi := _) (v := undef) rfl (by kernel_rfl) (by kernel_rfl) (by kernel_rfl) (fun _ _ _ h => h) (Or.inr ⟨by rfl, rfl⟩) (by assumption) ?_
        (try simp only [Act.put, List.getElem_toArray, List.getElem_cons_succ, List.getElem_cons_zero, List.setIfInBounds_toArray, List.set_cons_zero, List.set_cons_succ])
        refine wpAnyH_take (i := 13) (oi := _) (v := undef) rfl (by kernel_rfl) (by kernel_rfl) (by kernel_rfl) (fun _ _ _ h => h) (Or.inr ⟨by rfl, rfl⟩) (by assumption) ?_
        (try simp only [Act.put, List.getElem_toArray, List.getElem_cons_succ, List.getElem_cons_zero, List.setIfInBounds_toArray, List.set_cons_zero, List.set_cons_succ])
        refine wpAnyH_take (i := 14) (oi := _) (v := undef) rfl (by kernel_rfl) (by kernel_rfl) (by kernel_rfl) (fun _ _ _ h => h) (Or.inr ⟨by rfl, rfl⟩) (by assumption) ?_
        (try simp only [Act.put, List.getElem_toArray, List.getElem_cons_succ, List.getElem_cons_zero, List.setIfInBounds_toArray, List.set_cons_zero, List.set_cons_succ])
        refine wpAnyH_take (i := 15) (oi := _) (v := undef) rfl (by kernel_rfl) (by kernel_rfl) (by kernel_rfl) (fun _ _ _ h => h) (Or.inr ⟨by rfl, rfl⟩) (by assumption) ?_
        (try simp only [Act.put, List.getElem_toArray, List.getElem_cons_succ, List.getElem_cons_zero, List.setIfInBounds_toArray, List.set_cons_zero, List.set_cons_succ])
        refine wpAnyH_take (i := 16) (oi := _) (v := undef) rfl (by kernel_rfl) (by kernel_rfl) (by kernel_rfl) (fun _ _ _ h => h) (Or.inr ⟨by rfl, rfl⟩) (by assumption) ?_
        (try simp only [Act.put, List.getElem_toArray, List.getElem_cons_succ, List.getElem_cons_zero, List.setIfInBounds_toArray, List.set_cons_zero, List.set_cons_succ])
        refine wpAnyH_take (i := 17) (oi := _) (v := undef) rfl (by kernel_rfl) (by kernel_rfl) (by kernel_rfl) (fun _ _ _ h => h) (Or.inr ⟨by rfl, rfl⟩) (by assumption) ?_
        (try simp only [Act.put, List.getElem_toArray, List.getElem_cons_succ, List.getElem_cons_zero, List.setIfInBounds_toArray, List.set_cons_zero, List.set_cons_succ])
        refine wpAnyH_take (i := 18) (oi := _) (v := undef) rfl (by kernel_rfl) (by kernel_rfl) (by kernel_rfl) (fun _ _ _ h => h) (Or.inr ⟨by rfl, rfl⟩) (by assumption) ?_
        (try simp only [Act.put, List.getElem_toArray, List.getElem_cons_succ, List.getElem_cons_zero, List.setIfInBounds_toArray, List.set_cons_zero, List.set_cons_succ])
        refine wpAnyH_take (i := 19) (oi := _) (v := undef) rfl (by kernel_rfl) (by kernel_rfl) (by kernel_rfl) (fun _ _ _ h => h) (Or.inr ⟨by rfl, rfl⟩) (by assumption) ?_
        (try simp only [Act.put, List.getElem_toArray, List.getElem_cons_succ, List.getElem_cons_zero, List.setIfInBounds_toArray, List.set_cons_zero, List.set_cons_succ])
        refine wpAnyH_take (i := 20) (oi := _) (v := undef) rfl (by kernel_rfl) (by kernel_rfl) (by kernel_rfl) (fun _ _ _ h => h) (Or.inr ⟨by rfl, rfl⟩) (by assumption) ?_
        (try simp only [Act.put, List.getElem_toArray, List.getElem_cons_succ, List.getElem_cons_zero, List.setIfInBounds_toArray, List.set_cons_zero, List.set_cons_succ])
        refine wpAnyH_take (i := 21) (oi := _) (v := undef) rfl (by kernel_rfl) (by kernel_rfl) (by kernel_rfl) (fun _ _ _ h => h) (Or.inr ⟨by rfl, rfl⟩) (by assumption) ?_
        (try simp only [Act.put, List.getElem_toArray, List.getElem_cons_succ, List.getElem_cons_zero, List.setIfInBounds_toArray, List.set_cons_zero, List.set_cons_succ])
        refine wpAnyH_take (i := 22) (oi := _) (v := undef) rfl (by kernel_rfl) (by kernel_rfl) (by kernel_rfl) (fun _ _ _ h => h) (Or.inr ⟨by rfl, rfl⟩) (by assumption) ?_
        (try simp only [Act.put, List.getElem_toArray, List.getElem_cons_succ, List.getElem_cons_zero, List.setIfInBounds_toArray, List.set_cons_zero, List.set_cons_succ])
        refine wpAnyH_take (i := 23) (oi := _) (v := undef) rfl (by kernel_rfl) (by kernel_rfl) (by kernel_rfl) (fun _ _ _ h => h) (Or.inr ⟨by rfl, rfl⟩) (by assumption) ?_
        (try simp only [Act.put, List.getElem_toArray, List.getElem_cons_succ, List.getElem_cons_zero, List.setIfInBounds_toArray, List.set_cons_zero, List.set_cons_succ])
        refine wpAnyH_take (i := 24) (oi := _) (v := undef) rfl (by kernel_rfl) (by kernel_rfl) (by kernel_rfl) (fun _ _ _ h => h) (Or.inr ⟨by rfl, rfl⟩) (by assumption) ?_
        (try simp only [Act.put, List.getElem_toArray, List.getElem_cons_succ, List.getElem_cons_zero, List.setIfInBounds_toArray, List.set_cons_zero, List.set_cons_succ])
        refine wpAnyH_take (i := 25) (oi := _) (v := undef) rfl (by kernel_rfl) (by kernel_rfl) (by kernel_rfl) (fun _ _ _ h => h) (Or.inr ⟨by rfl, rfl⟩) (by assumption) ?_
        (try simp only [Act.put, List.getElem_toArray, List.getElem_cons_succ, List.getElem_cons_zero, List.setIfInBounds_toArray, List.set_cons_zero, List.set_cons_succ])
        refine tkH 26 rfl ?_
        refine tkH 27 rfl ?_
        refine tkH 28 rfl ?_
        refine tkH 29 rfl ?_
        refine tkH 30 rfl ?_
        refine tkH 31 rfl ?_
        refine tkH 32 rfl ?_
        refine tkH 33 rfl ?_
        refine tkH 34 rfl ?_
        refine tkH 35 rfl ?_
        refine tkH 36 rfl ?_
        refine tkH 37 rfl ?_
        refine wpAnyH_done (by kernel_rfl) (NoPanic.normal ?_) _
        clear I1 hHeld
        go_wp2_with fail
        refine ⟨⟨q + 1, by omega, by go_num, (unhide MM).below (below_drewN (Below.refl _ wr) 1)⟩, ?_⟩
        simp [intOf]; omega
      · obtain ⟨r, hqr⟩ : ∃ r, q = r + 1 := ⟨q - 1, by omega⟩
        obtain ⟨g2, off2, hge, _, d0, _⟩ := pks_term hM.p r (by omega)
        cases hge
        clear hq0
        subst hqr
        have hnx := unhide HN r hlt
        obtain ⟨n2, en2, hn02, hn12, _⟩ := unhide HG r (by omega)
        have MM := hide hM
        clear hM
        rw [en] at c0 hnx
        rw [en2] at d0 hnx
        generalize (l.getD (r + 1) default).h = x at *
        have I1 := hide (fun wx => l01In_any n 0 255 wx)
        rw [show inB (n : Int) 0 255 = true from inB_iff.2 ⟨by omega, by omega⟩] at I1
        have hqq : ∃ q : Nat, r + 1 = q := ⟨_, rfl⟩
        obtain ⟨q, hqq⟩ := hqq
        have j2 : IntKind.i64.wrap ((q : Int) - 1) = (r : Int) := by
          simp only [IntKind.wrap, IntKind.bits, IntKind.signed]
          simp
          omega
        have j0 : (0 : Int) ≤ (r : Int) := by omega
        have j1 : (r : Int) < (l.length : Int) := by omega
        have j3 : (0 : Int) < (q : Int) := by omega
        have j3n : 0 < q := by omega
        have j4n : ¬ n ≤ n2 := by omega
        have j4 : ¬ (n : Int) ≤ (n2 : Int) := by omega
        have HQ := hide hqq
        rw [hqq] at c0 c1 hk0 hk1 ⊢
        clear hqq en en2 hnx
        go_upto_region 10 with fail
        refine wp_region_noPanic ?_
        refine wp_region_held_drew (S := (fun wx => wx.cell? ⟨w.heap.size, 3, none⟩ = some (.slice (some ⟨g, off, none⟩) l.length cap) ∧ wx.cell? ⟨g, off + q * 2, none⟩ = some (.int .i64 (n : Int)) ∧ wx.cell? ⟨g, off + q * 2 + 1, none⟩ = some (.string x) ∧ wx.cell? ⟨g, off + r * 2, none⟩ = some (.int .i64 (n2 : Int)))) (by kernel_rfl) ?_ (fun hHeld => ?_)
        · exact ⟨m3, c0, c1, d0⟩
        refine tkH 0 rfl ?_
        refine tkH 1 rfl ?_
        refine tkH 2 rfl ?_
        refine tkH 3 rfl ?_
        refine tkH 4 rfl ?_
        refine tkH 5 rfl ?_
        refine wpAnyH_ready (rs := [6]) (by kernel_rfl) (by simp) ?_
        refine AllReadyH.cons (o := _) rfl (fun K hK => ?_) AllReadyH.nil
        go_simp
        refine (unhide I1 _).mono ?_
        rintro e w9 ⟨rfl, hw9⟩
        subst w9
        go_wp2_with fail
        refine hK.out _ _ ?_ (fun hHeld => ?_)
        · exact ⟨m3, c0, c1, d0⟩
        clear hK K
        (try simp only [Act.put, List.getElem_toArray, List.getElem_cons_succ, List.getElem_cons_zero, List.setIfInBounds_toArray, List.set_cons_zero, List.set_cons_succ])
        refine tkH 7 rfl ?_
        refine tkH 8 rfl ?_
        refine tkH 9 rfl ?_
        refine tkH 10 rfl ?_
        refine tkH 11 rfl ?_
        refine tkH 12 rfl ?_
        refine tkH 13 rfl ?_
        refine tkH 14 rfl ?_
        refine tkH 15 rfl ?_
        refine tkH 16 rfl ?_
        refine tkH 17 rfl ?_
        refine tkH 18 rfl ?_
        refine tkH 19 rfl ?_
        refine tkH 20 rfl ?_
        refine tkH 21 rfl ?_
        refine tkH 22 rfl ?_
        refine tkH 23 rfl ?_
        refine tkH 24 rfl ?_
        refine tkH 25 rfl ?_
        refine tkH 26 rfl ?_
        refine tkH 27 rfl ?_
        refine tkH 28 rfl ?_
        refine tkH 29 rfl ?_
        refine tkH 30 rfl ?_
        refine tkH 31 rfl ?_
        refine tkH 32 rfl ?_
        refine tkH 33 rfl ?_
        refine tkH 34 rfl ?_
        refine tkH 35 rfl ?_
        refine tkH 36 rfl ?_
        refine tkH 37 rfl ?_
        refine wpAnyH_done (by kernel_rfl) (NoPanic.normal ?_) _
        clear I1 hHeld
        go_wp2_with fail
        refine ⟨⟨q + 1, by have := unhide HQ; omega, by go_num, (unhide MM).below (below_drewN (Below.refl _ wr) 1)⟩, ?_⟩
        have := unhide HQ
        simp [intOf]; omega
    · obtain rfl : q = l.length := by omega
      have MM := hide hM
      clear hM
      have hfin : ∀ {wx : World}, Below wr.heap.size wr wx → Hid (Below w.heap.size w wx) := fun hx => hide ((unhide MM).b0.trans (hx.mono (unhide MM).b0.size))
      by_cases hk0 : k.size = 0
      · obtain rfl := txt0 hk0
        rw [if_pos hk0] at HO
        clear hk0
        cases f
        case true =>
          rw [if_neg (fun h => by cases h.1)] at HO
          go_wp2_with fail
          go_ret
          exact ⟨ret_int (unhide HO).symm, unhide (hfin (Below.refl _ _))⟩
        by_cases hv0 : v.size = 0
        case neg =>
          rw [if_neg (fun h => hv0 h.2.1)] at HO
          have hvb := isE hv0
          have hvn := lst0 hv0
          clear hv0
          go_wp2_with fail
          go_ret
          exact ⟨ret_int (unhide HO).symm, unhide (hfin (Below.refl _ _))⟩
        obtain rfl := txt0 hv0
        by_cases hl0 : l.length = 0
        case neg =>
          rw [if_neg (fun h => hl0 h.2.2.1)] at HO
          have hl1 : (0 : Int) < (l.length : Int) := by omega
          have hl2 : 0 < l.length := by omega
          clear hl0 hv0
          go_wp2_with fail
          go_ret
          exact ⟨ret_int (unhide HO).symm, unhide (hfin (Below.refl _ _))⟩
        have hl1 : ¬ (0 : Int) < (l.length : Int) := by omega
        have hl2 : ¬ 0 < l.length := by omega
        have HV : Hid (hashV [2] = strOfNums (textL (stAt [2] (padLen ([2] : List Int).length / 64)))) := hide (hashV_yes (l := [2]) (by simp))
        have hBy : Bytes (wr.alloc (.cells #[.int .u8 2] 5)) (.slice (some ⟨wr.heap.size, 0, none⟩) ([2] : List Int).length 1) [2] := by
          refine OwnB.bytes (B := wr.heap.size) ⟨own_lit (heap_new rfl) (Nat.le_refl _) rfl (by unfold maxLen; simp), fun i => ?_⟩
          match i with
          | 0 => simp
          | i + 1 => simp
        have HL := hide (l01Hash_any _ _ [2] _ hBy (by simp))
        have K1 := (Below.refl wr.heap.size wr).alloc (Nat.le_refl _) (.cells #[.int .u8 2] 5)
        have HK1 := hide K1
        have hlz : ([2] : List Int).length = 1 := rfl
        rw [hlz] at HL HV
        rw [← unhide HV] at HL
        clear hBy hlz HV K1 hv0
        generalize hashV [2] = h2 at *
        by_cases hr2 : root = h2
        · rw [if_pos ⟨rfl, rfl, hl0, hr2⟩] at HO
          have hrb := textEq hr2
          clear hl0
          go_wp2_with fail
          refine (unhide HL).mono ?_
          rintro e w3 ⟨rfl, hb3⟩
          have KF := hide ((unhide HK1).trans (hb3.mono (unhide HK1).size))
          clear hb3 HL
          subst hr2
          go_wp2_with fail
          go_ret
          exact ⟨ret_int (unhide HO).symm, unhide (hfin (unhide KF))⟩
        · rw [if_neg (fun h => hr2 h.2.2.2)] at HO
          have hrb := textNe hr2
          clear hl0
          go_wp2_with fail
          refine (unhide HL).mono ?_
          rintro e w3 ⟨rfl, hb3⟩
          have KF := hide ((unhide HK1).trans (hb3.mono (unhide HK1).size))
          clear hb3 HL
          go_wp2_with fail
          go_ret
          exact ⟨ret_int (unhide HO).symm, unhide (hfin (unhide KF))⟩
      rw [if_neg hk0] at HO
      have hkb := isE hk0
      have hkn := lst0 hk0
      clear hk0
      go_wp2_with fail
      refine (unhide H2 wr).mono ?_
      rintro e w9 ⟨rfl, hw9⟩
      subst w9
      cases hok : okK k
      case false =>
        rw [if_neg (fun h => by rw [hok] at h; cases h.1)] at HO
        clear hok hkb hkn
        go_wp2_with fail
        go_ret
        exact ⟨ret_int (unhide HO).symm, unhide (hfin (Below.refl _ _))⟩
      by_cases hff : f = decide (k = key)
      case neg =>
        rw [if_neg (fun h => hff h.2)] at HO
        clear hok
        by_cases hkk2 : k = key
        · have he := textEq hkk2
          have hf0 : f = false := by
            rw [decide_eq_true hkk2] at hff
            cases f
            · rfl
            · exact absurd rfl hff
          subst hf0
          clear hff hkk2
          go_wp2_with fail
          go_ret
          exact ⟨ret_int (unhide HO).symm, unhide (hfin (Below.refl _ _))⟩
        · have he := textNe hkk2
          have hf0 : f = true := by
            rw [decide_eq_false hkk2] at hff
            cases f
            · exact absurd rfl hff
            · rfl
          subst hf0
          clear hff hkk2
          go_wp2_with fail
          go_ret
          exact ⟨ret_int (unhide HO).symm, unhide (hfin (Below.refl _ _))⟩
      rw [if_pos ⟨hok, hff⟩] at HO
      have hcs : (f = true ∧ (k.toList == key.toList) = true) ∨ (f = false ∧ (k.toList == key.toList) = false) := by
        by_cases hkk2 : k = key
        · exact .inl ⟨by rw [hff, decide_eq_true hkk2], textEq hkk2⟩
        · exact .inr ⟨by rw [hff, decide_eq_false hkk2], textNe hkk2⟩
      clear hok hff H2 hfin hkb hkn
      generalize kh key = hx at *
      generalize kh k = hy at *
      rcases hcs with ⟨rfl, he⟩ | ⟨rfl, he⟩
      all_goals
        go_wp2_with fail
        refine (unhide H3 wr).mono ?_
        rintro e w3 ⟨rfl, hb3⟩
        have M3 := hide ((unhide MM).below hb3)
        clear hb3 m0 m1 m2 m3 MM H3 he
        have m0 := (unhide M3).x.cell 0 rfl
        have m1 := (unhide M3).x.cell 1 rfl
        have m2 := (unhide M3).x.cell 2 rfl
        have m3 := (unhide M3).x.cell 3 rfl
        go_wp2_with fail
        refine (unhide H4 w3).mono ?_
        rintro e w4 ⟨rfl, hb4⟩
        have M4 := hide ((unhide M3).below hb4)
        clear hb4 m0 m1 m2 m3 M3 H4
        have m0 := (unhide M4).x.cell 0 rfl
        have m1 := (unhide M4).x.cell 1 rfl
        have m2 := (unhide M4).x.cell 2 rfl
        have m3 := (unhide M4).x.cell 3 rfl
        go_wp2_with fail
        go_loopw [10] (fun i wr => ∃ q : Nat, q ≤ l.length ∧ i = .int .i64 q ∧ wayB hx hy (l.drop q) = wayB hx hy l ∧ Pb w w.heap.size _ k v a cap l wr) (fun i _ => l.length - (intOf i).toNat)
        case atStart => exact ⟨0, Nat.zero_le _, rfl, unhide HWZ, unhide M4⟩
        case round =>
          obtain ⟨q, hq, rfl, hwq, hM⟩ := hrel
          clear m0 m1 m2 m3 M4
          have m0 := hM.x.cell 0 rfl
          have m1 := hM.x.cell 1 rfl
          have m2 := hM.x.cell 2 rfl
          have m3 := hM.x.cell 3 rfl
          by_cases hlt : q < l.length
          · obtain ⟨g, off, rfl, hgl, c0, c1⟩ := pks_term hM.p q hlt
            have hk0 : (0 : Int) ≤ (q : Int) := by omega
            have hk1 : (q : Int) < (l.length : Int) := by omega
            obtain ⟨n, en, hn0, hn1, hn2⟩ := unhide HG q hlt
            have HD := hide (hwq.symm.trans (unhide HWD q hlt))
            have MM := hide hM
            clear hM hwq
            generalize l.getD q default = ff at *
            obtain ⟨s, x⟩ := ff
            dsimp only at c0 c1 en hn2 HD
            subst en
            rw [Int.toNat_natCast] at HD
            have I1 := hide (fun wx => unhide HB1 n wx hn1)
            have I2 := hide (fun wx => unhide HB2 n wx hn1)
            generalize bitN hx n = bx at *
            generalize bitN hy n = by_ at *
            go_upto_region 23 with fail
            refine wp_region_noPanic ?_
            refine wp_region_held_drew (S := (fun wx => wx.cell? ⟨w.heap.size, 3, none⟩ = some (.slice (some ⟨g, off, none⟩) l.length cap) ∧ wx.cell? ⟨g, off + q * 2, none⟩ = some (.int .i64 (n : Int)) ∧ wx.cell? ⟨g, off + q * 2 + 1, none⟩ = some (.string x))) (by kernel_rfl) ?_ (fun hHeld => ?_)
            · exact ⟨m3, c0, c1⟩
            refine tkH 0 rfl ?_
            refine tkH 1 rfl ?_
            refine tkH 2 rfl ?_
            refine tkH 3 rfl ?_
            refine tkH 4 rfl ?_
            refine tkH 5 rfl ?_
            refine tkH 6 rfl ?_
            refine tkH 8 rfl ?_
            refine tkH 9 rfl ?_
            refine tkH 10 rfl ?_
            refine tkH 11 rfl ?_
            refine tkH 12 rfl ?_
            refine tkH 13 rfl ?_
            refine tkH 14 rfl ?_
            refine wpAnyH_ready (rs := [7]) (by kernel_rfl) (by simp) ?_
            refine AllReadyH.cons (o := _) rfl (fun K hK => ?_) AllReadyH.nil
            go_simp
            refine (unhide I1 _).mono ?_
            rintro e w9 ⟨rfl, hw9⟩
            subst w9
            go_wp2_with fail
            refine hK.out _ _ ?_ (fun hHeld => ?_)
            · exact ⟨m3, c0, c1⟩
            clear hK K
            (try simp only [Act.put, List.getElem_toArray, List.getElem_cons_succ, List.getElem_cons_zero, List.setIfInBounds_toArray, List.set_cons_zero, List.set_cons_succ])
            refine wpAnyH_ready (rs := [15]) (by kernel_rfl) (by simp) ?_
            refine AllReadyH.cons (o := _) rfl (fun K hK => ?_) AllReadyH.nil
            go_simp
            refine (unhide I2 _).mono ?_
            rintro e w9 ⟨rfl, hw9⟩
            subst w9
            go_wp2_with fail
            refine hK.out _ _ ?_ (fun hHeld => ?_)
            · exact ⟨m3, c0, c1⟩
            clear hK K
            (try simp only [Act.put, List.getElem_toArray, List.getElem_cons_succ, List.getElem_cons_zero, List.setIfInBounds_toArray, List.set_cons_zero, List.set_cons_succ])
            refine tkH 16 rfl ?_
            refine wpAnyH_done (by kernel_rfl) (NoPanic.normal ?_) _
            by_cases hbb : bx = by_
            · subst hbb
              have HD2 : Hid (wayB hx hy (l.drop (q + 1)) = wayB hx hy l) := hide (by rw [unhide HD]; simp)
              go_wp2_with fail
              refine ⟨⟨q + 1, by omega, by go_num, unhide HD2, (unhide MM).below (below_drewN (Below.refl _ wr) 1)⟩, ?_⟩
              simp [intOf]; omega
            · have hwf : wayB hx hy l = false := by rw [unhide HD]; simp [hbb]
              rw [if_neg (by rw [hwf]; decide)] at HO
              have hne : (bx == by_) = false := by rw [beq_eq_false_iff_ne]; exact hbb
              clear hbb hwf
              go_wp2_with fail
              go_ret
              exact ⟨ret_int (unhide HO).symm, (unhide MM).b0.trans ((below_drewN (Below.refl _ wr) 1).mono (unhide MM).b0.size)⟩
          · obtain rfl : q = l.length := by omega
            rw [if_pos (hwq.symm.trans (unhide HWE))] at HO
            have MM := hide hM
            clear hM hwq
            go_upto_region 25 with fail
            refine wp_region_noPanic ?_
            refine wp_region_held_drew (S := (fun wx => wx.cell? ⟨w.heap.size, 1, none⟩ = some (.string k) ∧ wx.cell? ⟨w.heap.size, 2, none⟩ = some (.string v) ∧ wx.cell? ⟨w.heap.size, 3, none⟩ = some (.slice a l.length cap))) (by kernel_rfl) ?_ (fun hHeld => ?_)
            · exact ⟨m1, m2, m3⟩
            refine tkH 0 rfl ?_
            refine tkH 1 rfl ?_
            refine tkH 2 rfl ?_
            refine tkH 3 rfl ?_
            refine tkH 4 rfl ?_
            refine tkH 5 rfl ?_
            refine tkH 6 rfl ?_
            refine tkH 9 rfl ?_
            refine wpAnyH_ready (rs := [7]) (by kernel_rfl) (by simp) ?_
            refine AllReadyH.cons (o := _) rfl (fun K hK => ?_) AllReadyH.nil
            go_simp
            refine (unhide H5 _).mono ?_
            rintro e w5 ⟨rfl, hb5⟩
            replace hb5 : Below wr.heap.size wr w5 := (below_drewN (Below.refl _ wr) 1).trans hb5
            go_wp2_with fail
            refine hK.out _ _ ?_ (fun hHeld => ?_)
            · exact ⟨(hb5.cell (p := ⟨w.heap.size, 1, none⟩) (unhide MM).x.1).trans m1, (hb5.cell (p := ⟨w.heap.size, 2, none⟩) (unhide MM).x.1).trans m2, (hb5.cell (p := ⟨w.heap.size, 3, none⟩) (unhide MM).x.1).trans m3⟩
            clear hK K
            (try simp only [Act.put, List.getElem_toArray, List.getElem_cons_succ, List.getElem_cons_zero, List.setIfInBounds_toArray, List.set_cons_zero, List.set_cons_succ])
            refine wpAnyH_ready (rs := [8]) (by kernel_rfl) (by simp) ?_
            refine AllReadyH.cons (o := _) rfl (fun K hK => ?_) AllReadyH.nil
            go_simp
            refine (unhide H6 w5 ((unhide MM).p.below hb5)).mono ?_
            rintro e w6 ⟨rfl, hb6⟩
            replace hb6 := hb5.trans (hb6.mono hb5.size)
            go_wp2_with fail
            refine hK.out _ _ ?_ (fun hHeld => ?_)
            · exact ⟨(hb6.cell (p := ⟨w.heap.size, 1, none⟩) (unhide MM).x.1).trans m1, (hb6.cell (p := ⟨w.heap.size, 2, none⟩) (unhide MM).x.1).trans m2, (hb6.cell (p := ⟨w.heap.size, 3, none⟩) (unhide MM).x.1).trans m3⟩
            clear hK K
            (try simp only [Act.put, List.getElem_toArray, List.getElem_cons_succ, List.getElem_cons_zero, List.setIfInBounds_toArray, List.set_cons_zero, List.set_cons_succ])
            refine tkH 10 rfl ?_
            refine wpAnyH_done (by kernel_rfl) (NoPanic.normal ?_) _
            have KF := hide ((unhide MM).b0.trans (hb6.mono (unhide MM).b0.size))
            clear hb5 hb6 hHeld
            by_cases hro : rootBy hx (lfR k v) l = root
            · have hrb := textEq hro
              rw [if_pos hro] at HO
              rw [hrb, Bool.not_true]
              clear hrb hro
              generalize rootBy hx (lfR k v) l = rr at *
              go_wp2_with fail
              go_ret
              exact ⟨ret_int (unhide HO).symm, unhide KF⟩
            · have hrb := textNe hro
              rw [if_neg hro] at HO
              rw [hrb, Bool.not_false]
              clear hro hrb
              generalize rootBy hx (lfR k v) l = rr at *
              go_wp2_with fail
              go_ret
              exact ⟨ret_int (unhide HO).symm, unhide KF⟩
end Go.Proofs.YtnajpeaieeaflaaDoor.Sha
namespace Go.Proofs.YtnajpeaieeaflaaDoor.Sha
open Go.ChangeShapes Go.WideShapes Go.ChangeAt Go.RowKit
set_option linter.unusedVariables false
set_option linter.unusedSimpArgs false

set_option maxRecDepth 100000 in
set_option maxHeartbeats 1000000 in
theorem l07RootO_any (o : Option Tr) (hok : OkO o) (S : Nat → Prop) (kv : Value) (w : World) (hB : Brs S w kv (brOf o).kids) :
    Calls Tryd.prog 61 #[.agg #[.string (brOf o).key, .string (brOf o).val, .int .i64 (brOf o).at_, kv]] w fun e w' => e = .returned (.string (rootR o)) ∧ Below w.heap.size w w' := by
  cases o with
  | some t => exact l07Root_any t hok S kv w hB
  | none =>
    obtain ⟨sa, cap, rfl, _, hcm⟩ := hB.shape
    dsimp only [brOf, Br.key, Br.val, Br.at_, Br.kids] at hB ⊢
    have B0 := hide ((Below.refl w.heap.size w).alloc (Nat.le_refl _) (.cells #[.string ⟨#[]⟩, .string ⟨#[]⟩, .int .i64 0, .slice sa 0 cap] 25))
    have HE := hide (fun wx => l07Empty_any ⟨#[]⟩ ⟨#[]⟩ 0 [] sa cap wx (by simp))
    have he : emptyBr (.mk ⟨#[]⟩ ⟨#[]⟩ 0 []) = true := (empty_iff _ _ _ _).2 ⟨rfl, rfl, rfl, rfl⟩
    rw [he] at HE
    simp only [List.length_nil] at HE
    have HV : Hid (rootR none = strOfNums (textL (stAt [2] (padLen ([2] : List Int).length / 64)))) := hide (hashV_yes (l := [2]) (by simp))
    clear hB he
    go_enter Tryd.func61, Tryd.ntmps61
    go_wp2_with fail
    generalize w.alloc (.cells #[.string ⟨#[]⟩, .string ⟨#[]⟩, .int .i64 0, .slice sa 0 cap] 25) = w1 at *
    refine (unhide HE w1).mono ?_
    rintro e w2 ⟨rfl, hb2⟩
    have B2 := hide ((unhide B0).trans (hb2.mono (unhide B0).size))
    have hBy : Bytes (w2.alloc (.cells #[.int .u8 2] 5)) (.slice (some ⟨w2.heap.size, 0, none⟩) ([2] : List Int).length 1) [2] := by
      refine OwnB.bytes (B := w2.heap.size) ⟨own_lit (heap_new rfl) (Nat.le_refl _) rfl (by unfold maxLen; simp), fun i => ?_⟩
      match i with
      | 0 => simp
      | i + 1 => simp
    have HL := hide (l01Hash_any _ _ [2] _ hBy (by simp))
    have B3 := hide ((unhide B2).alloc (unhide B2).size (.cells #[.int .u8 2] 5))
    have hl1 : ([2] : List Int).length = 1 := rfl
    rw [hl1] at HL HV
    clear hb2 hBy hl1
    go_wp2_with fail
    refine (unhide HL).mono ?_
    rintro e w3 ⟨rfl, hb3⟩
    have K := hide ((unhide B3).trans (hb3.mono (unhide B3).size))
    clear hb3
    rw [← unhide HV]
    go_wp2_with fail
    go_ret
    exact ⟨rfl, unhide K⟩
end Go.Proofs.YtnajpeaieeaflaaDoor.Sha
namespace Go.Proofs.YtnajpeaieeaflaaDoor.Sha
open Go.ChangeShapes Go.WideShapes Go.ChangeAt Go.RowKit
set_option linter.unusedVariables false
set_option linter.unusedSimpArgs false

/-- What l07Prove answers. -/
def ProveR (o : Option Tr) (key : ByteArray) (w : World) (e : Ending) (w' : World) : Prop := ∃ u, e = .returned u ∧ PrV w.heap.size w' u (pkFound o key) (pkKV o key) (pkSteps o key) ∧ Below w.heap.size w w'
/-- The proof that grows: its box P, the slice that it owns, from E on; the result's box R. -/
structure Gw (X R E P : Nat) (w wr : World) (sv : Value) (acc : List Pk) : Prop where
  r : Blk wr R [.bool false, .string ⟨#[]⟩, .string ⟨#[]⟩, .slice none 0 0]
  p : Blk wr P [.bool false, .string ⟨#[]⟩, .string ⟨#[]⟩, sv]
  o : OwnP E wr sv acc
  n : ∀ k, sv.ownBlock = some k → k ≠ P
  b : Below X w wr
  s0 : X < R
  s1 : R < E
  s2 : E < P
theorem Gw.below {X R E P : Nat} {w wr wx : World} {sv : Value} {acc : List Pk} (h : Gw X R E P w wr sv acc) (hb : Below wr.heap.size wr wx) : Gw X R E P w wx sv acc :=
  ⟨h.r.below hb, h.p.below hb, h.o.below hb, h.n, h.b.trans (hb.mono (by have := h.r.1; have := h.s0; omega)), h.s0, h.s1, h.s2⟩
theorem own_e0 (w : World) (B : Nat) (hB : B ≤ w.heap.size) : OwnP B (w.alloc (.cells #[] 53)) (.slice (some ⟨w.heap.size, 0, none⟩) 0 0) [] :=
  World.ownsRow_made w #[] 0 hB (by unfold maxLen; omega) rfl
def set3 (w : World) (R : Nat) (a b c : Value) : World := ((w.setCell ⟨R, 0, none⟩ a).setCell ⟨R, 1, none⟩ b).setCell ⟨R, 2, none⟩ c
theorem set3_touch (w : World) (R : Nat) (a b c : Value) : Touch (fun x => x = R) w (set3 w R a b c) :=
  (((Touch.refl (fun x => x = R) w).setCell ⟨R, 0, none⟩ a (fun _ => rfl)).setCell ⟨R, 1, none⟩ b (fun _ => rfl)).setCell ⟨R, 2, none⟩ c (fun _ => rfl)
theorem Gw.fin {R E P : Nat} {w wr : World} {sv : Value} {acc : List Pk} (h : Gw w.heap.size R E P w wr sv acc) (a b c : Value) :
    Blk (set4 (set3 wr P a b c) R a b c sv) R [a, b, c, sv] ∧ OwnP w.heap.size (set4 (set3 wr P a b c) R a b c sv) sv acc ∧ Below w.heap.size w (set4 (set3 wr P a b c) R a b c sv) := by
  have ht := set3_touch wr P a b c
  have h0 := h.s0
  have h1 := h.s1
  have h2 := h.s2
  exact end4 a b c sv (h.r.kept ht (by omega)) (h.b.trans (ht.below h.b.size (fun k hk e => by omega))) (h.o.kept ht (fun k hk e => h.n k hk e)) (by omega) h1 (by omega)
theorem Gw.push {X R E P : Nat} {w w6 w7 : World} {sv : Value} {acc : List Pk} (h : Gw X R E P w w6 sv acc) (x : Pk) (o : Obj) {gg cg : Nat} (hown : w7.ownsRow E 53 2 (.slice (some ⟨gg, 0, none⟩) (acc.length + 1) cg) (acc.length + 1) (pksC acc ++ pksC [x]))
    (hgrow : (w6.alloc o).grownBy w7 sv.ownBlock) (hat : sv.ownBlock = some gg ∨ gg = w6.heap.size + 1) :
    Blk w7 P [.bool false, .string ⟨#[]⟩, .string ⟨#[]⟩, sv] ∧ Touch (fun q => sv.ownBlock = some q ∨ q = P) w6 (w7.setCell ⟨P, 3, none⟩ (.slice (some ⟨gg, 0, none⟩) (acc.length + 1) cg)) ∧ Touch (fun q => sv.ownBlock = some q) w6 w7 ∧
    Gw X R E P w (w7.setCell ⟨P, 3, none⟩ (.slice (some ⟨gg, 0, none⟩) (acc.length + 1) cg)) (.slice (some ⟨gg, 0, none⟩) (acc ++ [x]).length cg) (acc ++ [x]) := by
  have t1 : Touch (fun q => sv.ownBlock = some q) w6 w7 := ((Touch.refl (fun q => sv.ownBlock = some q) w6).alloc o).grown hgrow (fun q hq _ => hq)
  have p7 : Blk w7 P [.bool false, .string ⟨#[]⟩, .string ⟨#[]⟩, sv] := h.p.kept t1 (fun e => h.n P e rfl)
  have t2 : Touch (fun q => sv.ownBlock = some q ∨ q = P) w6 (w7.setCell ⟨P, 3, none⟩ (.slice (some ⟨gg, 0, none⟩) (acc.length + 1) cg)) :=
    (((Touch.refl (fun q => sv.ownBlock = some q ∨ q = P) w6).trans t1 (fun _ _ h => .inl h))).setCell ⟨P, 3, none⟩ _ (fun _ => .inr rfl)
  have h0 := h.s0
  have h1 := h.s1
  have h2 := h.s2
  have hP := h.p.1
  have hgP : gg ≠ P := by
    rcases hat with e | e
    · exact h.n gg e
    · omega
  have hll : (acc ++ [x]).length = acc.length + 1 := by simp
  refine ⟨p7, t2, t1, ?_⟩
  rw [hll]
  refine ⟨h.r.kept t2 (fun e => ?_), p7.set 3 _ (by simp), ?_, ?_, ?_, h0, h1, h2⟩
  · rcases e with e | e
    · have := (h.o.lt R e).1; omega
    · omega
  · have ho : OwnP E w7 (.slice (some ⟨gg, 0, none⟩) (acc.length + 1) cg) (acc ++ [x]) := OwnP.pushed hown rfl
    exact ho.kept (T := fun q => q = P) ((Touch.refl (fun q => q = P) w7).setCell ⟨P, 3, none⟩ _ (fun _ => rfl)) (fun k hk e => by
      have e2 : gg = k := by simpa [Value.ownBlock] using hk
      omega)
  · intro k hk
    have e2 : gg = k := by simpa [Value.ownBlock] using hk
    omega
  · exact h.b.trans (t2.below (by have := h.r.1; omega) (fun k hk e => by
      rcases e with e | e
      · have := (h.o.lt k e).1; omega
      · omega))
theorem Gw.setX {X R E P : Nat} {w wr : World} {sv : Value} {acc : List Pk} (h : Gw X R E P w wr sv acc) (a b c d : Value) : Gw X R E P w (set4 wr X a b c d) sv acc := by
  have ht := set4_touch wr X a b c d
  have h0 := h.s0
  have h1 := h.s1
  have h2 := h.s2
  have h3 := h.r.1
  exact ⟨h.r.kept ht (by omega), h.p.kept ht (by omega), h.o.kept ht (fun k hk e => by have := (h.o.lt k hk).1; omega), h.n, h.b.trans (ht.below (by omega) (fun k hk e => by omega)), h0, h1, h2⟩
set_option maxRecDepth 100000 in
set_option maxHeartbeats 4000000 in
theorem l07Prove_some (t : Tr) (hok : TrOK t) (hri : Rise 0 t) (key : ByteArray) (hk : key.size ≤ 24) (S : Nat → Prop) (sa : Option Addr) (cap : Nat) (w : World) (hB : Brs S w (.slice sa t.toBr.kids.length cap) t.toBr.kids) :
    Calls Tryd.prog 24 #[.agg #[.string t.toBr.key, .string t.toBr.val, .int .i64 t.toBr.at_, .slice sa t.toBr.kids.length cap], .string key] w fun e w' => ProveR (some t) key w e w' := by
  obtain ⟨i0, hi, hz0, hz1, hz2⟩ := info_parts infoPk
  obtain ⟨_, _, e0, hcap, hcm⟩ := hB.shape
  cases e0
  have HE := hide (fun wx => l07Empty_any t.toBr.key t.toBr.val t.toBr.at_ t.toBr.kids sa cap wx (by omega))
  have e9 : Br.mk t.toBr.key t.toBr.val t.toBr.at_ t.toBr.kids = brOf (some t) := by cases t <;> rfl
  rw [e9, show emptyBr (brOf (some t)) = false from not_empty hok] at HE
  clear e9
  have HKB := hide hB.bound
  have HHS := hide (fun wx => l07Hash_any key wx (by omega))
  have hks := kh_size (k := key) (by omega)
  have HGR : Hid (∀ u w', PrV w.heap.size w' u (decide ((leadL (kh key) t).1 = key)) (leadL (kh key) t) (stepsV (kh key) t) → Below w.heap.size w w' → ProveR (some t) key w (.returned u) w') := hide (fun u w' h1 h2 => ⟨u, rfl, h1, h2⟩)
  have HOK := hide hok
  have HRI := hide hri
  have X1 : Hid (Blk ((((w.alloc (.cells #[.string t.toBr.key, .string t.toBr.val, .int .i64 t.toBr.at_, .slice sa t.toBr.kids.length cap] 25)).alloc (.cells #[.bool false, .string ⟨#[]⟩, .string ⟨#[]⟩, .slice none 0 0] 32)).alloc (.cells #[] 53)).alloc (.cells #[.bool false, .string ⟨#[]⟩, .string ⟨#[]⟩, .slice (some ⟨w.heap.size + 1 + 1, 0, none⟩) 0 0] 32)) w.heap.size [.string t.toBr.key, .string t.toBr.val, .int .i64 t.toBr.at_, .slice sa t.toBr.kids.length cap]) := hide ((((Blk.new w _ _ w.heap.size rfl).alloc _).alloc _).alloc _)
  have G1 : Hid (Gw w.heap.size (w.heap.size + 1) (w.heap.size + 1 + 1) (w.heap.size + 1 + 1 + 1) w ((((w.alloc (.cells #[.string t.toBr.key, .string t.toBr.val, .int .i64 t.toBr.at_, .slice sa t.toBr.kids.length cap] 25)).alloc (.cells #[.bool false, .string ⟨#[]⟩, .string ⟨#[]⟩, .slice none 0 0] 32)).alloc (.cells #[] 53)).alloc (.cells #[.bool false, .string ⟨#[]⟩, .string ⟨#[]⟩, .slice (some ⟨w.heap.size + 1 + 1, 0, none⟩) 0 0] 32)) (.slice (some ⟨w.heap.size + 1 + 1, 0, none⟩) 0 0) []) := hide (by
    refine ⟨?_, ?_, ?_, ?_, ?_, by omega, by omega, by omega⟩
    · exact ((Blk.new _ _ _ (w.heap.size + 1) (by simp)).alloc _).alloc _
    · exact Blk.new _ _ _ (w.heap.size + 1 + 1 + 1) (by simp)
    · have h := own_e0 ((w.alloc (.cells #[.string t.toBr.key, .string t.toBr.val, .int .i64 t.toBr.at_, .slice sa t.toBr.kids.length cap] 25)).alloc (.cells #[.bool false, .string ⟨#[]⟩, .string ⟨#[]⟩, .slice none 0 0] 32)) (w.heap.size + 1 + 1) (by simp)
      have h2 := h.below ((Below.refl _ _).alloc (Nat.le_refl _) (.cells #[.bool false, .string ⟨#[]⟩, .string ⟨#[]⟩, .slice (some ⟨w.heap.size + 1 + 1, 0, none⟩) 0 0] 32))
      simpa using h2
    · intro k hk
      have e : w.heap.size + 1 + 1 = k := by simpa [Value.ownBlock] using hk
      omega
    · exact ((((Below.refl _ _).alloc (Nat.le_refl _) _).alloc (by simp) _).alloc (by simp; omega) _).alloc (by simp; omega) _)
  clear hB hok hri
  go_enter Tryd.func24, Tryd.ntmps24
  go_wp2_with fail
  generalize (((w.alloc (.cells #[.string t.toBr.key, .string t.toBr.val, .int .i64 t.toBr.at_, .slice sa t.toBr.kids.length cap] 25)).alloc (.cells #[.bool false, .string ⟨#[]⟩, .string ⟨#[]⟩, .slice none 0 0] 32)).alloc (.cells #[] 53)).alloc (.cells #[.bool false, .string ⟨#[]⟩, .string ⟨#[]⟩, .slice (some ⟨w.heap.size + 1 + 1, 0, none⟩) 0 0] 32) = w1 at *
  generalize w.heap.size + 1 + 1 + 1 = P at *
  generalize w.heap.size + 1 + 1 = E at *
  generalize w.heap.size + 1 = R at *
  refine (unhide HE w1).mono ?_
  rintro e w2 ⟨rfl, hb2⟩
  have X2 := hide ((unhide X1).below hb2)
  have G2 := hide ((unhide G1).below hb2)
  clear hb2 X1 G1 HE
  go_wp2_with fail
  refine (unhide HHS w2).mono ?_
  rintro e w3 ⟨rfl, hb3⟩
  have X3 := hide ((unhide X2).below hb3)
  have G3 := hide ((unhide G2).below hb3)
  clear hb3 X2 G2 HHS
  generalize kh key = h at *
  go_wp2_with fail
  go_loopw [] (fun wr => ∃ (m : Nat) (t' : Tr) (ka : Option Addr) (kc : Nat) (ga : Option Addr) (gc : Nat) (acc : List Pk), Blk wr w.heap.size [.string t'.toBr.key, .string t'.toBr.val, .int .i64 t'.toBr.at_, .slice ka t'.toBr.kids.length kc] ∧ Brs (fun x => x < w.heap.size) w (.slice ka t'.toBr.kids.length kc) t'.toBr.kids ∧ Rise m t' ∧ TrOK t' ∧ leadL h t' = leadL h t ∧ acc ++ stepsV h t' = stepsV h t ∧ acc.length ≤ m ∧ Gw w.heap.size R E P w wr (.slice ga acc.length gc) acc) (fun wr => 256 - atCell2 w.heap.size wr)
  case atStart => exact ⟨0, t, sa, cap, some ⟨E, 0, none⟩, 0, [], unhide X3, unhide HKB, unhide HRI, unhide HOK, rfl, rfl, Nat.le_refl _, unhide G3⟩
  case round =>
    clear HKB HRI HOK X3 G3
    obtain ⟨m, t', ka, kc, ga, gc, acc, hX, hKB, hRI, hOK, hL, hST, ham, hG⟩ := hrel
    obtain ⟨_, _, _, _, hkm⟩ := hKB.shape
    have HLF := hide (fun wx => l07Leaf_any t'.toBr.key t'.toBr.val t'.toBr.at_ ka t'.toBr.kids.length kc wx (by unfold maxLen at hkm ⊢; have := hKB.shape; omega))
    have HX := hide hX
    have x0 := hX.cell 0 rfl
    have x1 := hX.cell 1 rfl
    have x2 := hX.cell 2 rfl
    have x3 := hX.cell 3 rfl
    have HG := hide hG
    have HL := hide hL
    have HST := hide hST
    have HA := hide (atCell2_is (X := w.heap.size) (w := wr) (a := t'.at_) (by rw [x2, toBr_at]))
    have hXR : w.heap.size < R := hG.s0
    have hRE : R < E := hG.s1
    have hEP : E < P := hG.s2
    clear hX hG hL hST
    cases t' with
    | leaf k v =>
      rw [show decide ((Tr.leaf k v).toBr.kids.length = 0) = true from rfl] at HLF
      dsimp only [Tr.toBr, Br.key, Br.val, Br.at_, Br.kids, List.length_nil] at HLF x0 x1 x2 x3 HX hKB
      have HKV : Hid ((k, v) = leadL h t ∧ acc = stepsV h t) := hide ⟨unhide HL, by have e : acc ++ [] = stepsV h t := unhide HST; rwa [List.append_nil] at e⟩
      go_wp2_with fail
      refine (unhide HLF wr).mono ?_
      rintro e w4 ⟨rfl, hb4⟩
      have X4 := hide ((unhide HX).below hb4)
      have G4 := hide ((unhide HG).below hb4)
      clear hb4 x0 x1 x2 x3 HX HG
      have x0 := (unhide X4).cell 0 rfl
      have x1 := (unhide X4).cell 1 rfl
      have r0 := (unhide G4).r.cell 0 rfl
      have r1 := (unhide G4).r.cell 1 rfl
      have r2 := (unhide G4).r.cell 2 rfl
      have r3 := (unhide G4).r.cell 3 rfl
      have f0 := (unhide G4).r.fro 0
      have f1 := (unhide G4).r.fro 1
      have f2 := (unhide G4).r.fro 2
      have f3 := (unhide G4).r.fro 3
      have p0 := (unhide G4).p.cell 0 rfl
      have p1 := (unhide G4).p.cell 1 rfl
      have p2 := (unhide G4).p.cell 2 rfl
      have p3 := (unhide G4).p.cell 3 rfl
      have q0 := (unhide G4).p.fro 0
      have q1 := (unhide G4).p.fro 1
      have q2 := (unhide G4).p.fro 2
      have q3 := (unhide G4).p.fro 3
      by_cases hkk : k = key
      · have hbk := list_eq hkk
        have HD : Hid (decide ((leadL h t).1 = key) = true) := hide (by rw [← (unhide HKV).1]; simpa using hkk)
        have hE := (unhide G4).fin (.bool true) (.string k) (.string v)
        have z0 := hE.1.cell 0 rfl
        have z1 := hE.1.cell 1 rfl
        have z2 := hE.1.cell 2 rfl
        have z3 := hE.1.cell 3 rfl
        have HEN := hide hE
        unfold set4 set3 at z0 z1 z2 z3
        clear hkk hE
        go_wp2_with fail
        refine bodyPost_ret (v := .agg #[.bool true, .string k, .string v, .slice ga acc.length gc]) (by simp [results, Tryd.results24, go_sem, z0, z1, z2, z3]) rfl ?_
        refine unhide HGR _ _ ⟨.slice ga acc.length gc, ?_, ?_⟩ (unhide HEN).2.2
        · rw [unhide HD, ← (unhide HKV).1]
        · rw [← (unhide HKV).2]; exact (unhide HEN).2.1
      · have hbk := list_ne hkk
        have HD : Hid (decide ((leadL h t).1 = key) = false) := hide (by rw [← (unhide HKV).1]; simpa using hkk)
        have hE := (unhide G4).fin (.bool false) (.string k) (.string v)
        have z0 := hE.1.cell 0 rfl
        have z1 := hE.1.cell 1 rfl
        have z2 := hE.1.cell 2 rfl
        have z3 := hE.1.cell 3 rfl
        have HEN := hide hE
        unfold set4 set3 at z0 z1 z2 z3
        clear hkk hE
        go_wp2_with fail
        refine bodyPost_ret (v := .agg #[.bool false, .string k, .string v, .slice ga acc.length gc]) (by simp [results, Tryd.results24, go_sem, z0, z1, z2, z3]) rfl ?_
        refine unhide HGR _ _ ⟨.slice ga acc.length gc, ?_, ?_⟩ (unhide HEN).2.2
        · rw [unhide HD, ← (unhide HKV).1]
        · rw [← (unhide HKV).2]; exact (unhide HEN).2.1
    | fork a hv l r =>
      rw [show decide ((Tr.fork a hv l r).toBr.kids.length = 0) = false from rfl] at HLF
      dsimp only [Tr.toBr, Br.key, Br.val, Br.at_, Br.kids] at HLF x0 x1 x2 x3 HX hKB
      rw [show ([l.toBr, r.toBr] : List Br).length = 2 from rfl] at HLF x3 HX hKB
      obtain ⟨r0, r1, r2, r3⟩ := hRI
      obtain ⟨_, _, okl, okr⟩ := hOK
      obtain ⟨bb, off, kvf, rfl, _, hat⟩ := hKB.at (by simp)
      have hbb := hat.lt
      have HK := hide hat
      obtain ⟨kb, no, tn, tq, hkb, hwr, hb2, hn2, HLE, HES, hrn, okn, oko, hgn, hgo⟩ : ∃ (kb no : Nat) (tn tq : Tr), bitN h a = kb ∧ IntKind.i64.wrap (1 - (kb : Int)) = (no : Int) ∧ kb < 2 ∧ no < 2 ∧ Hid (leadL h (.fork a hv l r) = leadL h tn) ∧ Hid (stepsV h (.fork a hv l r) = ⟨a, trR tq⟩ :: stepsV h tn) ∧ Rise (a + 1) tn ∧ TrOK tn ∧ TrOK tq ∧ ([l.toBr, r.toBr] : List Br).getD kb default = tn.toBr ∧ ([l.toBr, r.toBr] : List Br).getD no default = tq.toBr := by
        rcases bitN_01 h a with hb | hb
        · exact ⟨0, 1, l, r, hb, by decide, by omega, by omega, hide (by conv => lhs; unfold leadL; rw [if_pos hb]), hide (by conv => lhs; unfold stepsV; rw [if_pos hb]), r2, okl, okr, rfl, rfl⟩
        · exact ⟨1, 0, r, l, hb, by decide, by omega, by omega, hide (by conv => lhs; unfold leadL; rw [if_neg (by omega)]), hide (by conv => lhs; unfold stepsV; rw [if_neg (by omega)]), r3, okr, okl, rfl, rfl⟩
      obtain ⟨s0, s1, s2, s3⟩ := hat.cells no (by simpa using hn2)
      obtain ⟨d0, d1, d2, d3⟩ := hat.cells kb (by simpa using hb2)
      have KO := hide (hat.kids no (by simpa using hn2))
      have KN := hide (hat.kids kb (by simpa using hb2))
      rw [hgo] at s0 s1 s2 KO
      rw [hgn] at d0 d1 d2 KN
      obtain ⟨kao, kco, hkvo, _, _⟩ := (unhide KO).shape
      obtain ⟨kan, kcn, hkvn, _, _⟩ := (unhide KN).shape
      rw [hkvo] at KO s3
      rw [hkvn] at KN d3
      clear hgo hgn HK okl okr r2 r3
      have HBT := hide (fun wx => l07Bit_any h a wx hks r1)
      have hA : Hid (atCell2 w.heap.size wr = a) := HA
      rw [hkb] at HBT
      clear hKB hat hkvo hkvn HA hkb
      go_wp2_with fail
      refine (unhide HLF wr).mono ?_
      rintro e w4 ⟨rfl, hb4⟩
      have X4 := hide ((unhide HX).below hb4)
      have G4 := hide ((unhide HG).below hb4)
      clear hb4 x0 x1 x2 x3 HX HG
      have x2 := (unhide X4).cell 2 rfl
      go_wp2_with fail
      refine (unhide HBT w4).mono ?_
      rintro e w9 ⟨rfl, hw9⟩
      subst w9
      have x3 := (unhide X4).cell 3 rfl
      have p3 := (unhide G4).p.cell 3 rfl
      have hX4 : w.heap.size < w4.heap.size := (unhide X4).1
      have hP4 : P < w4.heap.size := (unhide G4).p.1
      have t0 := ((unhide G4).b.cell (p := ⟨bb, off + no * 4, none⟩) hbb).trans s0
      have t1 := ((unhide G4).b.cell (p := ⟨bb, off + no * 4 + 1, none⟩) hbb).trans s1
      have t2 := ((unhide G4).b.cell (p := ⟨bb, off + no * 4 + 2, none⟩) hbb).trans s2
      have t3 := ((unhide G4).b.cell (p := ⟨bb, off + no * 4 + 3, none⟩) hbb).trans s3
      have n0 : (0 : Int) ≤ (no : Int) := by omega
      have n1 : (no : Int) < 2 := by omega
      have HRT := hide (l07Root_any tq oko _ _ w4.drew ((unhide KO).blw (below_drewN (unhide G4).b 1)))
      have HXC := hide (fun wx (hx : Below w4.heap.size w4 wx) => And.intro ((hx.cell (p := ⟨w.heap.size, 2, none⟩) hX4).trans x2) ((hx.cell (p := ⟨P, 3, none⟩) hP4).trans p3))
      have HGB := hide (fun wx (hx : Below w4.heap.size w4 wx) => (unhide G4).below hx)
      have HXB := hide (fun wx (hx : Below w4.heap.size w4 wx) => (unhide X4).below hx)
      obtain ⟨tr, htr⟩ : ∃ tr, tr = trR tq := ⟨_, rfl⟩
      rw [← htr] at HRT HES
      clear htr s0 s1 s2 s3
      generalize tq.toBr.key = ok0 at *
      generalize tq.toBr.val = ok1 at *
      generalize tq.toBr.at_ = ok2 at *
      generalize tq.toBr.kids.length = ok3 at *
      go_upto_region 7 with fail
      go_cut [] (fun wx => ∃ gg cg, Blk wx w.heap.size [.string ⟨#[]⟩, .string ⟨#[]⟩, .int .i64 a, .slice (some ⟨bb, off, none⟩) 2 kc] ∧ Gw w.heap.size R E P w wx (.slice (some ⟨gg, 0, none⟩) (acc ++ [(⟨a, tr⟩ : Pk)]).length cg) (acc ++ [⟨a, tr⟩]))
      case first =>
        go_wp2_with fail
        go_region_law (first
          | (go_simp; go_at_call 61; refine (unhide HRT).mono ?_; rintro e w6 ⟨rfl, hb6⟩; have hb6' : Below w4.heap.size w4 w6 := (below_drewN (Below.refl _ w4) 1).trans hb6; obtain ⟨k2, k3⟩ := unhide HXC w6 hb6'; have G6 := unhide HGB w6 hb6'; have X6 := unhide HXB w6 hb6'; have k4 := (((Below.refl w6.heap.size w6).alloc (Nat.le_refl _) (.cells #[.int .i64 a, .string tr] 53)).cell (p := ⟨P, 3, none⟩) G6.p.1).trans k3; go_simp)
          | (refine step_append_lies _ (by rfl) _ _ _ (by rfl) E 53 i0 _ 2 24 Tryd.underlying30 hi hz0 hz1 hz2 rfl (by omega) (.slice ga acc.length gc) acc.length (pksC acc) (by rfl) (OwnP.below G6.o ((Below.refl w6.heap.size w6).alloc (Nat.le_refl _) (.cells #[.int .i64 a, .string tr] 53))) ⟨w6.heap.size, 0, none⟩ 1 1 (pksC [⟨a, tr⟩]) (by rfl) (by rfl) (World.news_of_block (cs := #[.int .i64 a, .string tr]) (t := 53) (fr := (0, 0)) (heap_alloc_new w6 _)) (stp_one _) (by omega) (by unfold maxLen; omega) (by omega) (by have := G6.p.1; simp; omega) (w6.heap.size + 1) (by simp) ?_; intro gg cg w7 hown7 hgrow7 hat7 hlt7; obtain ⟨P7, T7, T6, G7⟩ := G6.push ⟨a, tr⟩ _ hown7 hgrow7 hat7; have k7 := P7.cell 3 rfl; have f7 := P7.fro 3))
        all_goals
          clear k2 k3 k4 k7 f7 P7 hown7 hgrow7 hat7 hlt7 hb6 hb6' x2 x3 p3 t0 t1 t2 t3
          have X7 := hide (X6.kept T7 (fun e => by
            rcases e with e | e
            · have := (G6.o.lt _ e).1; omega
            · omega))
          have HG7 := hide G7
          clear G7 T7 T6 G6 X6
          go_wp2_with fail
          go_meet
          exact ⟨gg, cg, unhide X7, unhide HG7⟩
      case rest =>
        obtain ⟨gg, cg, hXc, hGc⟩ := hcut
        have XC := hide hXc
        have GC := hide hGc
        clear x2 x3 p3 t0 t1 t2 t3 HRT HXC HGB HXB X4 G4
        have x3 := hXc.cell 3 rfl
        have f0 := hXc.fro 0
        have f1 := hXc.fro 1
        have f2 := hXc.fro 2
        have f3 := hXc.fro 3
        have x0 := hXc.cell 0 rfl
        have x1 := hXc.cell 1 rfl
        have x2 := hXc.cell 2 rfl
        have t0 := (hGc.b.cell (p := ⟨bb, off + kb * 4, none⟩) hbb).trans d0
        have t1 := (hGc.b.cell (p := ⟨bb, off + kb * 4 + 1, none⟩) hbb).trans d1
        have t2 := (hGc.b.cell (p := ⟨bb, off + kb * 4 + 2, none⟩) hbb).trans d2
        have t3 := (hGc.b.cell (p := ⟨bb, off + kb * 4 + 3, none⟩) hbb).trans d3
        have m0 : (0 : Int) ≤ (kb : Int) := by omega
        have m1 : (kb : Int) < 2 := by omega
        clear d0 d1 d2 d3 hXc hGc
        have XN := hide (set4_blk (unhide XC) (.string tn.toBr.key) (.string tn.toBr.val) (.int .i64 tn.toBr.at_) (.slice kan tn.toBr.kids.length kcn))
        have GN := hide ((unhide GC).setX (.string tn.toBr.key) (.string tn.toBr.val) (.int .i64 tn.toBr.at_) (.slice kan tn.toBr.kids.length kcn))
        have hat := atCell2_is (X := w.heap.size) (w := set4 wc w.heap.size (.string tn.toBr.key) (.string tn.toBr.val) (.int .i64 tn.toBr.at_) (.slice kan tn.toBr.kids.length kcn)) (a := tn.at_) (by rw [(unhide XN).cell 2 rfl, toBr_at])
        have HAT := hide hat
        clear hat
        go_wp2_with fail
        have hle := hrn.le
        have hle2 := hrn.le256
        refine ⟨⟨a + 1, tn, kan, kcn, some ⟨gg, 0, none⟩, cg, acc ++ [(⟨a, tr⟩ : Pk)], unhide XN, unhide KN, hrn, okn, ?_, ?_, ?_, unhide GN⟩, ?_⟩
        · rw [← unhide HL, unhide HLE]
        · rw [List.append_assoc]; exact (congrArg (acc ++ ·) (unhide HES)).symm.trans (unhide HST)
        · rw [List.length_append, List.length_singleton]; omega
        · have hat2 := unhide HAT
          unfold set4 at hat2
          rw [hat2, unhide hA]
          omega
end Go.Proofs.YtnajpeaieeaflaaDoor.Sha
namespace Go.Proofs.YtnajpeaieeaflaaDoor.Sha
open Go.ChangeShapes Go.WideShapes Go.ChangeAt Go.RowKit
set_option linter.unusedVariables false
set_option linter.unusedSimpArgs false

set_option maxRecDepth 100000 in
set_option maxHeartbeats 2000000 in
theorem l07Prove_none (key : ByteArray) (sa : Option Addr) (cap : Nat) (w : World) :
    Calls Tryd.prog 24 #[.agg #[.string ⟨#[]⟩, .string ⟨#[]⟩, .int .i64 0, .slice sa 0 cap], .string key] w fun e w' => ProveR none key w e w' := by
  have HE := hide (fun wx => l07Empty_any ⟨#[]⟩ ⟨#[]⟩ 0 [] sa cap wx (by simp))
  rw [(empty_iff _ _ _ _).2 ⟨rfl, rfl, rfl, rfl⟩] at HE
  have HGR : Hid (∀ u w', PrV w.heap.size w' u false (⟨#[]⟩, ⟨#[]⟩) [] → Below w.heap.size w w' → ProveR none key w (.returned u) w') := hide (fun u w' h1 h2 => ⟨u, rfl, h1, h2⟩)
  have G1 : Hid (Gw w.heap.size (w.heap.size + 1) (w.heap.size + 1 + 1) (w.heap.size + 1 + 1 + 1) w ((((w.alloc (.cells #[.string ⟨#[]⟩, .string ⟨#[]⟩, .int .i64 0, .slice sa 0 cap] 25)).alloc (.cells #[.bool false, .string ⟨#[]⟩, .string ⟨#[]⟩, .slice none 0 0] 32)).alloc (.cells #[] 53)).alloc (.cells #[.bool false, .string ⟨#[]⟩, .string ⟨#[]⟩, .slice (some ⟨w.heap.size + 1 + 1, 0, none⟩) 0 0] 32)) (.slice (some ⟨w.heap.size + 1 + 1, 0, none⟩) 0 0) []) := hide (by
    refine ⟨?_, ?_, ?_, ?_, ?_, by omega, by omega, by omega⟩
    · exact ((Blk.new _ _ _ (w.heap.size + 1) (by simp)).alloc _).alloc _
    · exact Blk.new _ _ _ (w.heap.size + 1 + 1 + 1) (by simp)
    · have h := own_e0 ((w.alloc (.cells #[.string ⟨#[]⟩, .string ⟨#[]⟩, .int .i64 0, .slice sa 0 cap] 25)).alloc (.cells #[.bool false, .string ⟨#[]⟩, .string ⟨#[]⟩, .slice none 0 0] 32)) (w.heap.size + 1 + 1) (by simp)
      have h2 := h.below ((Below.refl _ _).alloc (Nat.le_refl _) (.cells #[.bool false, .string ⟨#[]⟩, .string ⟨#[]⟩, .slice (some ⟨w.heap.size + 1 + 1, 0, none⟩) 0 0] 32))
      simpa using h2
    · intro k hk
      have e : w.heap.size + 1 + 1 = k := by simpa [Value.ownBlock] using hk
      omega
    · exact ((((Below.refl _ _).alloc (Nat.le_refl _) _).alloc (by simp) _).alloc (by simp; omega) _).alloc (by simp; omega) _)
  go_enter Tryd.func24, Tryd.ntmps24
  go_wp2_with fail
  generalize (((w.alloc (.cells #[.string ⟨#[]⟩, .string ⟨#[]⟩, .int .i64 0, .slice sa 0 cap] 25)).alloc (.cells #[.bool false, .string ⟨#[]⟩, .string ⟨#[]⟩, .slice none 0 0] 32)).alloc (.cells #[] 53)).alloc (.cells #[.bool false, .string ⟨#[]⟩, .string ⟨#[]⟩, .slice (some ⟨w.heap.size + 1 + 1, 0, none⟩) 0 0] 32) = w1 at *
  generalize w.heap.size + 1 + 1 + 1 = P at *
  generalize w.heap.size + 1 + 1 = E at *
  generalize w.heap.size + 1 = R at *
  refine (unhide HE w1).mono ?_
  rintro e w2 ⟨rfl, hb2⟩
  have G2 := hide ((unhide G1).below hb2)
  clear hb2 G1 HE
  have r0 := (unhide G2).r.cell 0 rfl
  have r1 := (unhide G2).r.cell 1 rfl
  have r2 := (unhide G2).r.cell 2 rfl
  have r3 := (unhide G2).r.cell 3 rfl
  have f0 := (unhide G2).r.fro 0
  have f1 := (unhide G2).r.fro 1
  have f2 := (unhide G2).r.fro 2
  have f3 := (unhide G2).r.fro 3
  have p0 := (unhide G2).p.cell 0 rfl
  have p1 := (unhide G2).p.cell 1 rfl
  have p2 := (unhide G2).p.cell 2 rfl
  have p3 := (unhide G2).p.cell 3 rfl
  have hE := end4 (.bool false) (.string ⟨#[]⟩) (.string ⟨#[]⟩) (.slice (some ⟨E, 0, none⟩) 0 0) (unhide G2).r (unhide G2).b (unhide G2).o (Nat.le_of_lt (unhide G2).s0) (unhide G2).s1 (Nat.le_of_lt (Nat.lt_trans (unhide G2).s0 (unhide G2).s1))
  have z0 := hE.1.cell 0 rfl
  have z1 := hE.1.cell 1 rfl
  have z2 := hE.1.cell 2 rfl
  have z3 := hE.1.cell 3 rfl
  have HEN := hide hE
  unfold set4 at z0 z1 z2 z3
  clear hE
  go_wp2_with fail
  refine bodyPost_ret (v := .agg #[.bool false, .string ⟨#[]⟩, .string ⟨#[]⟩, .slice (some ⟨E, 0, none⟩) 0 0]) (by simp [results, Tryd.results24, go_sem, z0, z1, z2, z3]) rfl ?_
  exact unhide HGR _ _ ⟨.slice (some ⟨E, 0, none⟩) 0 0, rfl, (unhide HEN).2.1⟩ (unhide HEN).2.2
set_option maxRecDepth 100000 in
set_option maxHeartbeats 2000000 in
theorem specProveKey_any (k v : ByteArray) (a : Int) (ks : List Br) (key : ByteArray) (S : Nat → Prop) (kv : Value) (w : World) (hB : Brs S w kv ks) (hk : k.size ≤ maxLen) (hv : v.size ≤ maxLen) (hky : key.size ≤ 1048576) :
    Calls Tryd.prog 8 #[.agg #[.string k, .string v, .int .i64 a, kv], .string key] w fun e w' => ∃ u, e = .returned (.tuple #[u, .int .i64 (pfOut (.mk k v a ks) key).c]) ∧ PrV w.heap.size w' u (pfOut (.mk k v a ks) key).f (pfOut (.mk k v a ks) key).kv (pfOut (.mk k v a ks) key).st ∧ Below w.heap.size w w' := by
  obtain ⟨sa, cap, rfl, hcap, hcm⟩ := hB.shape
  have B0 := hide (((Below.refl w.heap.size w).alloc (Nat.le_refl _) (.cells #[.string k, .string v, .int .i64 a, .slice sa ks.length cap] 25)).alloc (by simp) (.cells #[.bool false, .string ⟨#[]⟩, .string ⟨#[]⟩, .slice none 0 0] 32))
  have X0 := hide ((Blk.new w #[.string k, .string v, .int .i64 a, .slice sa ks.length cap] 25 w.heap.size rfl).alloc (.cells #[.bool false, .string ⟨#[]⟩, .string ⟨#[]⟩, .slice none 0 0] 32))
  have R0 := hide (Blk.new (w.alloc (.cells #[.string k, .string v, .int .i64 a, .slice sa ks.length cap] 25)) #[.bool false, .string ⟨#[]⟩, .string ⟨#[]⟩, .slice none 0 0] 32 (w.heap.size + 1) (by simp))
  have HSZ := hide (show w.heap.size ≤ w.heap.size + 1 by omega)
  have HM := hide (fun wx (hx : Below w.heap.size w wx) => specMapOK_any k v a ks S _ wx (hB.blw hx) hk hv)
  have HMB := hide (mapB_V (.mk k v a ks))
  have HKY := hide (fun wx => l02Keyb_any key wx (by unfold maxLen; omega))
  have HOK := hide (okK_iff (k := key))
  have HGT := hide (fun (h24 : key.size ≤ 24) o (h : mapV (.mk k v a ks) = some o) wx (hx : Below w.heap.size w wx) => show Calls Tryd.prog 24 #[.agg #[.string k, .string v, .int .i64 a, .slice sa ks.length cap], .string key] wx fun e w' => ProveR o key wx e w' by
    obtain ⟨h1, h2⟩ := mapV_br h
    have h3 := mapV_rise h
    have hx2 := hB.blw hx
    cases o with
    | none =>
      have h1' : Br.mk k v a ks = .mk ⟨#[]⟩ ⟨#[]⟩ 0 [] := h1
      cases h1'
      exact l07Prove_none key sa cap wx
    | some t =>
      have h1' : Br.mk k v a ks = t.toBr := h1
      have q := l07Prove_some t h2 h3 key h24 S sa cap wx (by rw [← h1']; exact hx2)
      rw [← h1'] at q
      exact q)
  by_cases h1 : 65536 < key.size
  · have HO : Hid (pfOut (.mk k v a ks) key = ⟨false, (⟨#[]⟩, ⟨#[]⟩), [], 2⟩) := hide (by
      have e : txC key.size 1 24 = 2 := by unfold txC; rw [if_pos h1]
      unfold pfOut; rw [e, if_neg (by omega)])
    clear hB hk hv HGT HM
    go_enter Tryd.func8, Tryd.ntmps8
    have r0 := (unhide R0).cell 0 rfl
    have r1 := (unhide R0).cell 1 rfl
    have r2 := (unhide R0).cell 2 rfl
    have r3 := (unhide R0).cell 3 rfl
    go_wp2_with fail
    refine bodyPost_ret (v := .tuple #[.agg #[.bool false, .string ⟨#[]⟩, .string ⟨#[]⟩, .slice none 0 0], .int .i64 2]) (by simp [results, Tryd.results8, go_sem, r0, r1, r2, r3]) rfl ?_
    exact ⟨_, by rw [unhide HO], ⟨_, by rw [unhide HO], by rw [unhide HO]; exact OwnP.nil _ _⟩, unhide B0⟩
  have HTX : Hid (txC key.size 1 24 = if okK key = true then 0 else 1) := hide (by unfold txC; rw [if_neg h1, okK_in])
  clear hB hk hv
  go_enter Tryd.func8, Tryd.ntmps8
  go_wp2_with fail
  generalize (w.alloc (.cells #[.string k, .string v, .int .i64 a, .slice sa ks.length cap] 25)).alloc (.cells #[.bool false, .string ⟨#[]⟩, .string ⟨#[]⟩, .slice none 0 0] 32) = w1 at *
  generalize w.heap.size + 1 = rb at *
  refine (unhide HM w1 (unhide B0)).mono ?_
  rintro e w2 ⟨rfl, hb2⟩
  have B2 := hide ((unhide B0).trans (hb2.mono (unhide B0).size))
  have X2 := hide ((unhide X0).below hb2)
  have R2 := hide ((unhide R0).below hb2)
  clear hb2 X0 R0 B0
  have x0 := (unhide X2).cell 0 rfl
  have x1 := (unhide X2).cell 1 rfl
  have x2 := (unhide X2).cell 2 rfl
  have x3 := (unhide X2).cell 3 rfl
  rw [unhide HMB]
  cases hmv : mapV (.mk k v a ks) with
  | none =>
    have HO : Hid (pfOut (.mk k v a ks) key = ⟨false, (⟨#[]⟩, ⟨#[]⟩), [], 1⟩) := hide (by
      unfold pfOut
      rw [hmv, unhide HTX]
      cases okK key <;> rfl)
    clear hmv HGT HTX HM
    rw [show (none : Option (Option Tr)).isSome = false from rfl]
    have r0 := (unhide R2).cell 0 rfl
    have r1 := (unhide R2).cell 1 rfl
    have r2 := (unhide R2).cell 2 rfl
    have r3 := (unhide R2).cell 3 rfl
    have f0 := (unhide R2).fro 0
    have f1 := (unhide R2).fro 1
    have f2 := (unhide R2).fro 2
    have f3 := (unhide R2).fro 3
    have hE := end4 (.bool false) (.string ⟨#[]⟩) (.string ⟨#[]⟩) (.slice none 0 0) (unhide R2) (unhide B2) (OwnP.nil w2.heap.size w2) (unhide HSZ) (unhide R2).1 (unhide B2).size
    have z0 := hE.1.cell 0 rfl
    have z1 := hE.1.cell 1 rfl
    have z2 := hE.1.cell 2 rfl
    have z3 := hE.1.cell 3 rfl
    have HE := hide hE
    unfold set4 at z0 z1 z2 z3
    clear hE
    go_wp2_with fail
    refine bodyPost_ret (v := .tuple #[.agg #[.bool false, .string ⟨#[]⟩, .string ⟨#[]⟩, .slice none 0 0], .int .i64 1]) (by simp [results, Tryd.results8, go_sem, z0, z1, z2, z3]) rfl ?_
    exact ⟨_, by rw [unhide HO], ⟨_, by rw [unhide HO], by rw [unhide HO]; exact (unhide HE).2.1⟩, (unhide HE).2.2⟩
  | some o =>
    rw [show (some o).isSome = true from rfl]
    have HO : Hid (pfOut (.mk k v a ks) key = if okK key = true then ⟨pkFound o key, pkKV o key, pkSteps o key, 0⟩ else ⟨false, (⟨#[]⟩, ⟨#[]⟩), [], 1⟩) := hide (by
      unfold pfOut
      rw [hmv, unhide HTX]
      cases okK key <;> rfl)
    have HG2 := hide (fun h24 => unhide HGT h24 o hmv w2 (unhide B2))
    clear hmv HGT HTX HM
    generalize okK key = ok at *
    go_wp2_with fail
    refine (unhide HKY w2).mono ?_
    rintro e w9 ⟨rfl, hw9⟩
    subst w9
    cases ok
    · rw [if_neg (by simp)] at HO
      clear HG2
      have r0 := (unhide R2).cell 0 rfl
      have r1 := (unhide R2).cell 1 rfl
      have r2 := (unhide R2).cell 2 rfl
      have r3 := (unhide R2).cell 3 rfl
      have f0 := (unhide R2).fro 0
      have f1 := (unhide R2).fro 1
      have f2 := (unhide R2).fro 2
      have f3 := (unhide R2).fro 3
      have hE := end4 (.bool false) (.string ⟨#[]⟩) (.string ⟨#[]⟩) (.slice none 0 0) (unhide R2) (unhide B2) (OwnP.nil w2.heap.size w2) (unhide HSZ) (unhide R2).1 (unhide B2).size
      have z0 := hE.1.cell 0 rfl
      have z1 := hE.1.cell 1 rfl
      have z2 := hE.1.cell 2 rfl
      have z3 := hE.1.cell 3 rfl
      have HE := hide hE
      unfold set4 at z0 z1 z2 z3
      clear hE
      go_wp2_with fail
      refine bodyPost_ret (v := .tuple #[.agg #[.bool false, .string ⟨#[]⟩, .string ⟨#[]⟩, .slice none 0 0], .int .i64 1]) (by simp [results, Tryd.results8, go_sem, z0, z1, z2, z3]) rfl ?_
      exact ⟨_, by rw [unhide HO], ⟨_, by rw [unhide HO], by rw [unhide HO]; exact (unhide HE).2.1⟩, (unhide HE).2.2⟩
    rw [if_pos rfl] at HO
    have HG3 := hide (unhide HG2 ((unhide HOK).1 rfl).2)
    clear HG2
    go_wp2_with fail
    refine (unhide HG3).mono ?_
    rintro e w3 ⟨u, rfl, ⟨sv, rfl, hO3⟩, hb3⟩
    have B3 := hide ((unhide B2).trans (hb3.mono (unhide B2).size))
    have R3 := hide ((unhide R2).below hb3)
    have O3 := hide hO3
    have hrb : rb < w2.heap.size := (unhide R2).1
    have S2 := hide (unhide B2).size
    clear hb3 HG3 hO3 B2 R2 X2 x0 x1 x2 x3
    generalize pkFound o key = ff at *
    generalize pkKV o key = kk at *
    generalize pkSteps o key = st at *
    obtain ⟨kk, vv⟩ := kk
    obtain ⟨ga, gc, hsv, _⟩ := (unhide O3).pks
    rw [hsv] at O3 ⊢
    have r0 := (unhide R3).cell 0 rfl
    have r1 := (unhide R3).cell 1 rfl
    have r2 := (unhide R3).cell 2 rfl
    have r3 := (unhide R3).cell 3 rfl
    have f0 := (unhide R3).fro 0
    have f1 := (unhide R3).fro 1
    have f2 := (unhide R3).fro 2
    have f3 := (unhide R3).fro 3
    have hE := end4 (.bool ff) (.string kk) (.string vv) (.slice ga st.length gc) (unhide R3) (unhide B3) (unhide O3) (unhide HSZ) hrb (unhide S2)
    have z0 := hE.1.cell 0 rfl
    have z1 := hE.1.cell 1 rfl
    have z2 := hE.1.cell 2 rfl
    have z3 := hE.1.cell 3 rfl
    have HE := hide hE
    unfold set4 at z0 z1 z2 z3
    clear hE hsv
    go_wp2_with fail
    refine bodyPost_ret (v := .tuple #[.agg #[.bool ff, .string kk, .string vv, .slice ga st.length gc], .int .i64 0]) (by simp [results, Tryd.results8, go_sem, z0, z1, z2, z3]) rfl ?_
    exact ⟨_, by rw [unhide HO], ⟨_, by rw [unhide HO], by rw [unhide HO]; exact (unhide HE).2.1⟩, (unhide HE).2.2⟩
end Go.Proofs.YtnajpeaieeaflaaDoor.Sha
