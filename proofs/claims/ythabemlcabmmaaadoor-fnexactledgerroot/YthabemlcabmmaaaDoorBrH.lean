/- The root of a map: the specification's. -/
import Derived.Test.YthabemlcabmmaaaDoorBrG
import Derived.Test.YthabemlcabmmaaaDoorBrC
namespace Go.Proofs.YthabemlcabmmaaaDoor.Sha
open Go.ChangeShapes Go.WideShapes Go.ChangeAt Go.RowKit
set_option linter.unusedVariables false
set_option linter.unusedSimpArgs false

theorem range_two {x y : Int} {xs : List Int} (h0 : 0 ≤ x) (h1 : x ≤ 255) (h2 : 0 ≤ y) (h3 : y ≤ 255) (h : ∀ i, 0 ≤ xs.getD i 0 ∧ xs.getD i 0 ≤ 255) : ∀ i, 0 ≤ (x :: y :: xs).getD i 0 ∧ (x :: y :: xs).getD i 0 ≤ 255 := range_cons h0 h1 (range_cons h2 h3 h)
theorem l01Hash_two (x y : Int) (a b : ByteArray) (g cap : Nat) (w : World) (ha : a.size ≤ 60) (hb : b.size ≤ 60) (h : Bytes w (.slice (some ⟨g, 0, none⟩) (2 + a.size + b.size) cap) (x :: y :: (bytesI a ++ bytesI b))) :
    Calls Tryd.prog 95 #[.slice (some ⟨g, 0, none⟩) (2 + a.size + b.size) cap] w fun e w' => e = .returned (.string (hashV (x :: y :: (bytesI a ++ bytesI b)))) ∧ Below w.heap.size w w' := by
  have hl : (x :: y :: (bytesI a ++ bytesI b)).length = 2 + a.size + b.size := by simp [bytesI_len]; omega
  rw [hashV_yes (by omega)]
  rw [← hl] at h ⊢
  exact l01Hash_any _ _ _ w h (by omega)
set_option maxRecDepth 100000 in
set_option maxHeartbeats 1000000 in
theorem l07LeafHash_any (a b : ByteArray) (w : World) (ha : a.size ≤ 24) (hb : b.size ≤ 60) :
    Calls Tryd.prog 143 #[.string a, .string b] w fun e w' => e = .returned (.string (lfR a b)) ∧ Below w.heap.size w w' := by
  obtain ⟨i0, hi, hz0, hz1, hz2⟩ := info_parts info5
  have hq : IntKind.u8.wrap (a.size : Int) = (a.size : Int) := wraps_u8 _ (by omega) (by omega)
  have O0 : Hid ((w.alloc (.cells #[.int .u8 0, .int .u8 a.size] 5)).ownsRow w.heap.size 5 1 (.slice (some ⟨w.heap.size, 0, none⟩) 2 2) 2 [.int .u8 0, .int .u8 a.size]) := hide (own_lit (heap_new rfl) (Nat.le_refl _) rfl (by unfold maxLen; omega))
  have B0 := hide ((Below.refl w.heap.size w).alloc (Nat.le_refl _) (.cells #[.int .u8 0, .int .u8 a.size] 5))
  have HV : Hid (lfR a b = hashV (0 :: (a.size : Int) :: (bytesI a ++ bytesI b))) := rfl
  go_enter Tryd.func143, Tryd.ntmps143
  go_wp2_with (at_builtin; first
    | (refine wpList_append_str _ rfl _ _ _ _ rfl w.heap.size 5 i0 Tryd.underlying124 Tryd.underlying9 hi hz0 hz1 hz2 _ (2 + a.size) _ rfl (unhide O1) b rfl (by omega) (by omega) (by have := (unhide B1).size; omega) ?_; intro g2 cap2 w2 hown2 hgrow2 hat2; have O2 := hide hown2; have B2 := hide ((unhide B1).grown hgrow2 (by have := (unhide B1).size; omega) (fun r hr => ((unhide O1).lt r hr).1)); clear hown2 hgrow2 hat2)
    | (refine wpList_append_str _ rfl _ _ _ _ rfl w.heap.size 5 i0 Tryd.underlying124 Tryd.underlying9 hi hz0 hz1 hz2 _ 2 _ rfl (unhide O0) a rfl (by omega) (by omega) (by simp) ?_; intro g1 cap1 w1 hown1 hgrow1 hat1; have O1 := hide hown1; have B1 := hide ((unhide B0).grown hgrow1 (by simp) (fun r hr => ((unhide O0).lt r hr).1)); clear hown1 hgrow1 hat1))
  have hx : Bytes w2 (.slice (some ⟨g2, 0, none⟩) (2 + a.size + b.size) cap2) (0 :: (a.size : Int) :: (bytesI a ++ bytesI b)) := by
    have hl : (0 :: (a.size : Int) :: (bytesI a ++ bytesI b)).length = 2 + a.size + b.size := by simp [bytesI_len]; omega
    rw [← hl]
    refine OwnB.bytes (B := w.heap.size) ⟨?_, range_two (by omega) (by omega) (by omega) (by omega) (range_append (bytesI_range a) (bytesI_range b))⟩
    have h := unhide O2
    rw [strCells_eq, strCells_eq] at h
    rw [hl]
    simpa using h
  have HL := hide (l01Hash_two _ _ a b g2 cap2 w2 (by omega) (by omega) hx)
  clear hx
  refine (unhide HL).mono ?_
  rintro e w3 ⟨rfl, hb3⟩
  have K := hide ((unhide B2).trans (hb3.mono (unhide B2).size))
  clear hb3
  rw [← unhide HV]
  go_wp2_with fail
  go_ret
  exact ⟨rfl, unhide K⟩
set_option maxRecDepth 100000 in
set_option maxHeartbeats 1000000 in
theorem l07ForkHash_any (n : Nat) (a b : ByteArray) (w : World) (hn : n < 256) (ha : a.size = 32) (hb : b.size = 32) :
    Calls Tryd.prog 144 #[.int .i64 n, .string a, .string b] w fun e w' => e = .returned (.string (fkR n a b)) ∧ Below w.heap.size w w' := by
  obtain ⟨i0, hi, hz0, hz1, hz2⟩ := info_parts info5
  have hq : IntKind.u8.wrap (n : Int) = (n : Int) := wraps_u8 _ (by omega) (by omega)
  have O0 : Hid ((w.alloc (.cells #[.int .u8 1, .int .u8 n] 5)).ownsRow w.heap.size 5 1 (.slice (some ⟨w.heap.size, 0, none⟩) 2 2) 2 [.int .u8 1, .int .u8 n]) := hide (own_lit (heap_new rfl) (Nat.le_refl _) rfl (by unfold maxLen; omega))
  have B0 := hide ((Below.refl w.heap.size w).alloc (Nat.le_refl _) (.cells #[.int .u8 1, .int .u8 n] 5))
  have HV : Hid (fkR n a b = hashV (1 :: (n : Int) :: (bytesI a ++ bytesI b))) := rfl
  have ha2 : a.size ≤ 32 := by omega
  have hb2 : b.size ≤ 32 := by omega
  clear ha hb
  go_enter Tryd.func144, Tryd.ntmps144
  go_wp2_with (at_builtin; first
    | (refine wpList_append_str _ rfl _ _ _ _ rfl w.heap.size 5 i0 Tryd.underlying124 Tryd.underlying9 hi hz0 hz1 hz2 _ (2 + a.size) _ rfl (unhide O1) b rfl (by omega) (by omega) (by have := (unhide B1).size; omega) ?_; intro g2 cap2 w2 hown2 hgrow2 hat2; have O2 := hide hown2; have B2 := hide ((unhide B1).grown hgrow2 (by have := (unhide B1).size; omega) (fun r hr => ((unhide O1).lt r hr).1)); clear hown2 hgrow2 hat2)
    | (refine wpList_append_str _ rfl _ _ _ _ rfl w.heap.size 5 i0 Tryd.underlying124 Tryd.underlying9 hi hz0 hz1 hz2 _ 2 _ rfl (unhide O0) a rfl (by omega) (by omega) (by simp) ?_; intro g1 cap1 w1 hown1 hgrow1 hat1; have O1 := hide hown1; have B1 := hide ((unhide B0).grown hgrow1 (by simp) (fun r hr => ((unhide O0).lt r hr).1)); clear hown1 hgrow1 hat1))
  have hx : Bytes w2 (.slice (some ⟨g2, 0, none⟩) (2 + a.size + b.size) cap2) (1 :: (n : Int) :: (bytesI a ++ bytesI b)) := by
    have hl : (1 :: (n : Int) :: (bytesI a ++ bytesI b)).length = 2 + a.size + b.size := by simp [bytesI_len]; omega
    rw [← hl]
    refine OwnB.bytes (B := w.heap.size) ⟨?_, range_two (by omega) (by omega) (by omega) (by omega) (range_append (bytesI_range a) (bytesI_range b))⟩
    have h := unhide O2
    rw [strCells_eq, strCells_eq] at h
    rw [hl]
    simpa using h
  have HL := hide (l01Hash_two _ _ a b g2 cap2 w2 (by omega) (by omega) hx)
  clear hx
  refine (unhide HL).mono ?_
  rintro e w3 ⟨rfl, hb3⟩
  have K := hide ((unhide B2).trans (hb3.mono (unhide B2).size))
  clear hb3
  rw [← unhide HV]
  go_wp2_with fail
  go_ret
  exact ⟨rfl, unhide K⟩
set_option maxRecDepth 100000 in
set_option maxHeartbeats 4000000 in
theorem l07Root_any : ∀ (t : Tr), TrOK t → ∀ (S : Nat → Prop) (kv : Value) (w : World), Brs S w kv t.toBr.kids →
    Calls Tryd.prog 117 #[.agg #[.string t.toBr.key, .string t.toBr.val, .int .i64 t.toBr.at_, kv]] w fun e w' => e = .returned (.string (trR t)) ∧ Below w.heap.size w w' := by
  intro t
  induction t with
  | leaf k v =>
    intro hok S kv w hB
    obtain ⟨sa, cap, rfl, _, hcm⟩ := hB.shape
    have HNE := not_empty hok
    have hk := (okK_iff.1 hok.1).2
    have hv : v.size ≤ 60 := hok.2
    dsimp only [Tr.toBr, Br.key, Br.val, Br.at_, Br.kids] at HNE ⊢
    have B0 := hide ((Below.refl w.heap.size w).alloc (Nat.le_refl _) (.cells #[.string k, .string v, .int .i64 256, .slice sa 0 cap] 60))
    have X0 := hide (Blk.new w #[.string k, .string v, .int .i64 256, .slice sa 0 cap] 60 w.heap.size rfl)
    have HE := hide (fun wx => l07Empty_any k v 256 [] sa cap wx (by simp))
    have HLF := hide (fun wx => l07Leaf_any k v 256 sa 0 cap wx (by omega))
    rw [HNE] at HE
    simp only [List.length_nil] at HE
    rw [show decide (0 = 0) = true from rfl] at HLF
    have HLH := hide (fun wx => l07LeafHash_any k v wx hk hv)
    have HV : Hid (trR (.leaf k v) = lfR k v) := rfl
    clear hB hok HNE
    go_enter Tryd.func117, Tryd.ntmps117
    go_wp2_with fail
    generalize w.alloc (.cells #[.string k, .string v, .int .i64 256, .slice sa 0 cap] 60) = w1 at *
    refine (unhide HE w1).mono ?_
    rintro e w2 ⟨rfl, hb2⟩
    have B2 := hide ((unhide B0).trans (hb2.mono (unhide B0).size))
    have X2 := hide ((unhide X0).below hb2)
    clear hb2
    have x0 := (unhide X2).cell 0 rfl
    have x1 := (unhide X2).cell 1 rfl
    have x2 := (unhide X2).cell 2 rfl
    have x3 := (unhide X2).cell 3 rfl
    go_wp2_with fail
    refine (unhide HLF w2).mono ?_
    rintro e w3 ⟨rfl, hb3⟩
    have B3 := hide ((unhide B2).trans (hb3.mono (unhide B2).size))
    have X3 := hide ((unhide X2).below hb3)
    clear hb3 x0 x1 x2 x3
    have x0 := (unhide X3).cell 0 rfl
    have x1 := (unhide X3).cell 1 rfl
    go_wp2_with fail
    refine (unhide HLH w3).mono ?_
    rintro e w4 ⟨rfl, hb4⟩
    have B4 := hide ((unhide B3).trans (hb4.mono (unhide B3).size))
    clear hb4
    rw [← unhide HV]
    go_wp2_with fail
    go_ret
    exact ⟨rfl, unhide B4⟩
  | fork a hh l r ihl ihr =>
    intro hok S kv w hB
    obtain ⟨sa, cap, rfl, _, hcm⟩ := hB.shape
    have HNE := not_empty hok
    obtain ⟨ha, _, okl, okr⟩ := hok
    dsimp only [Tr.toBr, Br.key, Br.val, Br.at_, Br.kids] at HNE hB ⊢
    have B0 := hide ((Below.refl w.heap.size w).alloc (Nat.le_refl _) (.cells #[.string ⟨#[]⟩, .string ⟨#[]⟩, .int .i64 a, .slice sa 2 cap] 60))
    have X0 := hide (Blk.new w #[.string ⟨#[]⟩, .string ⟨#[]⟩, .int .i64 a, .slice sa 2 cap] 60 w.heap.size rfl)
    have HE := hide (fun wx => l07Empty_any ⟨#[]⟩ ⟨#[]⟩ a [l.toBr, r.toBr] sa cap wx (by unfold maxLen; simp))
    have HLF := hide (fun wx => l07Leaf_any ⟨#[]⟩ ⟨#[]⟩ a sa 2 cap wx (by unfold maxLen; omega))
    rw [HNE] at HE
    rw [show decide (2 = 0) = false from rfl] at HLF
    obtain ⟨bb, off, kvf, rfl, _, hat⟩ := hB.at (by simp)
    have hbb := hat.lt
    obtain ⟨s00, s01, s02, s03⟩ := hat.cells 0 (by simp)
    obtain ⟨s10, s11, s12, s13⟩ := hat.cells 1 (by simp)
    have K0 := hide (hat.kids 0 (by simp))
    have K1 := hide (hat.kids 1 (by simp))
    simp only [List.getD_cons_zero, List.getD_cons_succ, Nat.zero_mul, Nat.add_zero, Nat.one_mul] at s00 s01 s02 s03 s10 s11 s12 s13 K0 K1
    obtain ⟨ka0, kc0, hkv0, _, _⟩ := (unhide K0).shape
    obtain ⟨ka1, kc1, hkv1, _, _⟩ := (unhide K1).shape
    rw [hkv0] at K0 s03
    rw [hkv1] at K1 s13
    have HL := hide (fun wx (hx : Below w.heap.size w wx) => ihl okl S _ wx ((unhide K0).blw hx))
    have HR := hide (fun wx (hx : Below w.heap.size w wx) => ihr okr S _ wx ((unhide K1).blw hx))
    have HF := hide (fun wx => l07ForkHash_any a (trR l) (trR r) wx ha (trR_size l okl) (trR_size r okr))
    have HV : Hid (trR (.fork a hh l r) = fkR a (trR l) (trR r)) := rfl
    clear hB hat hkv0 hkv1 K0 K1 ihl ihr HNE
    generalize l.toBr = b0 at *
    generalize r.toBr = b1 at *
    generalize trR l = rl at *
    generalize trR r = rr at *
    simp only [List.length_cons, List.length_nil] at HE
    go_enter Tryd.func117, Tryd.ntmps117
    go_wp2_with fail
    generalize w.alloc (.cells #[.string ⟨#[]⟩, .string ⟨#[]⟩, .int .i64 a, .slice (some ⟨bb, off, none⟩) 2 cap] 60) = w1 at *
    refine (unhide HE w1).mono ?_
    rintro e w2 ⟨rfl, hb2⟩
    have B2 := hide ((unhide B0).trans (hb2.mono (unhide B0).size))
    have X2 := hide ((unhide X0).below hb2)
    clear hb2
    have x0 := (unhide X2).cell 0 rfl
    have x1 := (unhide X2).cell 1 rfl
    have x2 := (unhide X2).cell 2 rfl
    have x3 := (unhide X2).cell 3 rfl
    go_wp2_with fail
    refine (unhide HLF w2).mono ?_
    rintro e w3 ⟨rfl, hb3⟩
    have B3 := hide ((unhide B2).trans (hb3.mono (unhide B2).size))
    have X3 := hide ((unhide X2).below hb3)
    clear hb3 x0 x1 x2 x3
    have hX := (unhide X3).1
    have hw3 := (unhide B3).size
    have HSX : Hid (∀ wx, Below w3.heap.size w3 wx → wx.cell? ⟨w.heap.size, 2, none⟩ = some (.int .i64 a) ∧ wx.cell? ⟨w.heap.size, 3, none⟩ = some (.slice (some ⟨bb, off, none⟩) 2 cap) ∧ wx.cell? ⟨bb, off, none⟩ = some (.string b0.key) ∧ wx.cell? ⟨bb, off + 1, none⟩ = some (.string b0.val) ∧ wx.cell? ⟨bb, off + 2, none⟩ = some (.int .i64 b0.at_) ∧ wx.cell? ⟨bb, off + 3, none⟩ = some (.slice ka0 b0.kids.length kc0) ∧ wx.cell? ⟨bb, off + 4, none⟩ = some (.string b1.key) ∧ wx.cell? ⟨bb, off + 4 + 1, none⟩ = some (.string b1.val) ∧ wx.cell? ⟨bb, off + 4 + 2, none⟩ = some (.int .i64 b1.at_) ∧ wx.cell? ⟨bb, off + 4 + 3, none⟩ = some (.slice ka1 b1.kids.length kc1)) := hide (fun wx hb => by
      have hb' := (unhide B3).trans (hb.mono hw3)
      have X := (unhide X3).below hb
      exact ⟨X.cell 2 rfl, X.cell 3 rfl, (hb'.cell (p := ⟨bb, off, none⟩) hbb).trans s00, (hb'.cell (p := ⟨bb, off + 1, none⟩) hbb).trans s01, (hb'.cell (p := ⟨bb, off + 2, none⟩) hbb).trans s02, (hb'.cell (p := ⟨bb, off + 3, none⟩) hbb).trans s03, (hb'.cell (p := ⟨bb, off + 4, none⟩) hbb).trans s10, (hb'.cell (p := ⟨bb, off + 4 + 1, none⟩) hbb).trans s11, (hb'.cell (p := ⟨bb, off + 4 + 2, none⟩) hbb).trans s12, (hb'.cell (p := ⟨bb, off + 4 + 3, none⟩) hbb).trans s13⟩)
    obtain ⟨y2, y3, t00, t01, t02, t03, t10, t11, t12, t13⟩ := unhide HSX w3 (Below.refl _ _)
    clear s00 s01 s02 s03 s10 s11 s12 s13
    go_wp2_with fail
    go_region_held3 (fun wx => wx.cell? ⟨w.heap.size, 2, none⟩ = some (.int .i64 a) ∧ wx.cell? ⟨w.heap.size, 3, none⟩ = some (.slice (some ⟨bb, off, none⟩) 2 cap) ∧ wx.cell? ⟨bb, off, none⟩ = some (.string b0.key) ∧ wx.cell? ⟨bb, off + 1, none⟩ = some (.string b0.val) ∧ wx.cell? ⟨bb, off + 2, none⟩ = some (.int .i64 b0.at_) ∧ wx.cell? ⟨bb, off + 3, none⟩ = some (.slice ka0 b0.kids.length kc0) ∧ wx.cell? ⟨bb, off + 4, none⟩ = some (.string b1.key) ∧ wx.cell? ⟨bb, off + 4 + 1, none⟩ = some (.string b1.val) ∧ wx.cell? ⟨bb, off + 4 + 2, none⟩ = some (.int .i64 b1.at_) ∧ wx.cell? ⟨bb, off + 4 + 3, none⟩ = some (.slice ka1 b1.kids.length kc1)) (first | go_keep | exact unhide HSX _ hc3 | exact unhide HSX _ hc2 | exact unhide HSX _ hc1) (first
      | (go_at_call 144; refine (unhide HF w5).mono ?_; rintro e w6 ⟨rfl, hb6⟩; have hc3 := hc2.trans (hb6.mono hc2.size))
      | (go_at_call 117; refine (unhide HR _ ((unhide B3).trans (hc1.mono hw3))).mono ?_; rintro e w5 ⟨rfl, hb5⟩; have hc2 := hc1.trans (hb5.mono hc1.size))
      | (go_at_call 117; refine (unhide HL _ ((unhide B3).trans (((Below.refl _ w3).drew).mono hw3))).mono ?_; rintro e w4 ⟨rfl, hb4⟩; have hc1 : Below w3.heap.size w3 w4 := ((Below.refl _ w3).drew).trans hb4))
    have K := hide ((unhide B3).trans (hc3.mono hw3))
    clear hb4 hb5 hb6 hc1 hc2 hc3 y2 y3 t00 t01 t02 t03 t10 t11 t12 t13
    rw [← unhide HV]
    go_wp2_with fail
    go_ret
    exact ⟨rfl, unhide K⟩
end Go.Proofs.YthabemlcabmmaaaDoor.Sha
