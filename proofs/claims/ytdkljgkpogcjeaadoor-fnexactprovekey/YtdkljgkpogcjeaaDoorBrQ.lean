/- spec.ProveKey. -/
import Derived.Test.YtdkljgkpogcjeaaDoorBrZ
namespace Go.Proofs.YtdkljgkpogcjeaaDoor.Sha
open Go.ChangeShapes Go.WideShapes Go.ChangeAt Go.RowKit
set_option linter.unusedVariables false
set_option linter.unusedSimpArgs false

set_option maxRecDepth 100000 in
set_option maxHeartbeats 2000000 in
theorem l07Prove_none (key : ByteArray) (sa : Option Addr) (cap : Nat) (w : World) :
    Calls Tryd.prog 77 #[.agg #[.string ⟨#[]⟩, .string ⟨#[]⟩, .int .i64 0, .slice sa 0 cap], .string key] w fun e w' => ProveR none key w e w' := by
  have HE := hide (fun wx => l07Empty_any ⟨#[]⟩ ⟨#[]⟩ 0 [] sa cap wx (by simp))
  rw [(empty_iff _ _ _ _).2 ⟨rfl, rfl, rfl, rfl⟩] at HE
  have HGR : Hid (∀ u w', PrV w.heap.size w' u false (⟨#[]⟩, ⟨#[]⟩) [] → Below w.heap.size w w' → ProveR none key w (.returned u) w') := hide (fun u w' h1 h2 => ⟨u, rfl, h1, h2⟩)
  have G1 : Hid (Gw w.heap.size (w.heap.size + 1) (w.heap.size + 1 + 1) (w.heap.size + 1 + 1 + 1) w ((((w.alloc (.cells #[.string ⟨#[]⟩, .string ⟨#[]⟩, .int .i64 0, .slice sa 0 cap] 32)).alloc (.cells #[.bool false, .string ⟨#[]⟩, .string ⟨#[]⟩, .slice none 0 0] 51)).alloc (.cells #[] 106)).alloc (.cells #[.bool false, .string ⟨#[]⟩, .string ⟨#[]⟩, .slice (some ⟨w.heap.size + 1 + 1, 0, none⟩) 0 0] 51)) (.slice (some ⟨w.heap.size + 1 + 1, 0, none⟩) 0 0) []) := hide (by
    refine ⟨?_, ?_, ?_, ?_, ?_, by omega, by omega, by omega⟩
    · exact ((Blk.new _ _ _ (w.heap.size + 1) (by simp)).alloc _).alloc _
    · exact Blk.new _ _ _ (w.heap.size + 1 + 1 + 1) (by simp)
    · have h := own_e0 ((w.alloc (.cells #[.string ⟨#[]⟩, .string ⟨#[]⟩, .int .i64 0, .slice sa 0 cap] 32)).alloc (.cells #[.bool false, .string ⟨#[]⟩, .string ⟨#[]⟩, .slice none 0 0] 51)) (w.heap.size + 1 + 1) (by simp)
      have h2 := h.below ((Below.refl _ _).alloc (Nat.le_refl _) (.cells #[.bool false, .string ⟨#[]⟩, .string ⟨#[]⟩, .slice (some ⟨w.heap.size + 1 + 1, 0, none⟩) 0 0] 51))
      simpa using h2
    · intro k hk
      have e : w.heap.size + 1 + 1 = k := by simpa [Value.ownBlock] using hk
      omega
    · exact ((((Below.refl _ _).alloc (Nat.le_refl _) _).alloc (by simp) _).alloc (by simp; omega) _).alloc (by simp; omega) _)
  go_enter Tryd.func77, Tryd.ntmps77
  go_wp2_with fail
  generalize (((w.alloc (.cells #[.string ⟨#[]⟩, .string ⟨#[]⟩, .int .i64 0, .slice sa 0 cap] 32)).alloc (.cells #[.bool false, .string ⟨#[]⟩, .string ⟨#[]⟩, .slice none 0 0] 51)).alloc (.cells #[] 106)).alloc (.cells #[.bool false, .string ⟨#[]⟩, .string ⟨#[]⟩, .slice (some ⟨w.heap.size + 1 + 1, 0, none⟩) 0 0] 51) = w1 at *
  generalize w.heap.size + 1 + 1 + 1 = P at *
  generalize w.heap.size + 1 + 1 = E at *
  generalize w.heap.size + 1 = R at *
  refine (unhide HE w1).mono ?_
  rintro e w2 ⟨rfl, hb2⟩
  have G2 := hide ((unhide G1).below hb2)
  clear hb2 G1 HE
  have r0 := (unhide G2).r.cell 0 rfl
  have r1 := (unhide G2).r.cell 1 rfl
  have r2 := (unhide G2).r.cell 2 rfl
  have r3 := (unhide G2).r.cell 3 rfl
  have f0 := (unhide G2).r.fro 0
  have f1 := (unhide G2).r.fro 1
  have f2 := (unhide G2).r.fro 2
  have f3 := (unhide G2).r.fro 3
  have p0 := (unhide G2).p.cell 0 rfl
  have p1 := (unhide G2).p.cell 1 rfl
  have p2 := (unhide G2).p.cell 2 rfl
  have p3 := (unhide G2).p.cell 3 rfl
  have hE := end4 (.bool false) (.string ⟨#[]⟩) (.string ⟨#[]⟩) (.slice (some ⟨E, 0, none⟩) 0 0) (unhide G2).r (unhide G2).b (unhide G2).o (Nat.le_of_lt (unhide G2).s0) (unhide G2).s1 (Nat.le_of_lt (Nat.lt_trans (unhide G2).s0 (unhide G2).s1))
  have z0 := hE.1.cell 0 rfl
  have z1 := hE.1.cell 1 rfl
  have z2 := hE.1.cell 2 rfl
  have z3 := hE.1.cell 3 rfl
  have HEN := hide hE
  unfold set4 at z0 z1 z2 z3
  clear hE
  go_wp2_with fail
  refine bodyPost_ret (v := .agg #[.bool false, .string ⟨#[]⟩, .string ⟨#[]⟩, .slice (some ⟨E, 0, none⟩) 0 0]) (by simp [results, Tryd.results77, go_sem, z0, z1, z2, z3]) rfl ?_
  exact unhide HGR _ _ ⟨.slice (some ⟨E, 0, none⟩) 0 0, rfl, (unhide HEN).2.1⟩ (unhide HEN).2.2
set_option maxRecDepth 100000 in
set_option maxHeartbeats 2000000 in
theorem specProveKey_any (k v : ByteArray) (a : Int) (ks : List Br) (key : ByteArray) (S : Nat → Prop) (kv : Value) (w : World) (hB : Brs S w kv ks) (hk : k.size ≤ maxLen) (hv : v.size ≤ maxLen) (hky : key.size ≤ 1048576) :
    Calls Tryd.prog 34 #[.agg #[.string k, .string v, .int .i64 a, kv], .string key] w fun e w' => ∃ u, e = .returned (.tuple #[u, .int .i64 (pfOut (.mk k v a ks) key).c]) ∧ PrV w.heap.size w' u (pfOut (.mk k v a ks) key).f (pfOut (.mk k v a ks) key).kv (pfOut (.mk k v a ks) key).st ∧ Below w.heap.size w w' := by
  obtain ⟨sa, cap, rfl, hcap, hcm⟩ := hB.shape
  have B0 := hide (((Below.refl w.heap.size w).alloc (Nat.le_refl _) (.cells #[.string k, .string v, .int .i64 a, .slice sa ks.length cap] 32)).alloc (by simp) (.cells #[.bool false, .string ⟨#[]⟩, .string ⟨#[]⟩, .slice none 0 0] 51))
  have X0 := hide ((Blk.new w #[.string k, .string v, .int .i64 a, .slice sa ks.length cap] 32 w.heap.size rfl).alloc (.cells #[.bool false, .string ⟨#[]⟩, .string ⟨#[]⟩, .slice none 0 0] 51))
  have R0 := hide (Blk.new (w.alloc (.cells #[.string k, .string v, .int .i64 a, .slice sa ks.length cap] 32)) #[.bool false, .string ⟨#[]⟩, .string ⟨#[]⟩, .slice none 0 0] 51 (w.heap.size + 1) (by simp))
  have HSZ := hide (show w.heap.size ≤ w.heap.size + 1 by omega)
  have HM := hide (fun wx (hx : Below w.heap.size w wx) => specMapOK_any k v a ks S _ wx (hB.blw hx) hk hv)
  have HMB := hide (mapB_V (.mk k v a ks))
  have HKY := hide (fun wx => l02Keyb_any key wx (by unfold maxLen; omega))
  have HOK := hide (okK_iff (k := key))
  have HGT := hide (fun (h24 : key.size ≤ 24) o (h : mapV (.mk k v a ks) = some o) wx (hx : Below w.heap.size w wx) => show Calls Tryd.prog 77 #[.agg #[.string k, .string v, .int .i64 a, .slice sa ks.length cap], .string key] wx fun e w' => ProveR o key wx e w' by
    obtain ⟨h1, h2⟩ := mapV_br h
    have h3 := mapV_rise h
    have hx2 := hB.blw hx
    cases o with
    | none =>
      have h1' : Br.mk k v a ks = .mk ⟨#[]⟩ ⟨#[]⟩ 0 [] := h1
      cases h1'
      exact l07Prove_none key sa cap wx
    | some t =>
      have h1' : Br.mk k v a ks = t.toBr := h1
      have q := l07Prove_some t h2 h3 key h24 S sa cap wx (by rw [← h1']; exact hx2)
      rw [← h1'] at q
      exact q)
  by_cases h1 : 65536 < key.size
  · have HO : Hid (pfOut (.mk k v a ks) key = ⟨false, (⟨#[]⟩, ⟨#[]⟩), [], 2⟩) := hide (by
      have e : txC key.size 1 24 = 2 := by unfold txC; rw [if_pos h1]
      unfold pfOut; rw [e, if_neg (by omega)])
    clear hB hk hv HGT HM
    go_enter Tryd.func34, Tryd.ntmps34
    have r0 := (unhide R0).cell 0 rfl
    have r1 := (unhide R0).cell 1 rfl
    have r2 := (unhide R0).cell 2 rfl
    have r3 := (unhide R0).cell 3 rfl
    go_wp2_with fail
    refine bodyPost_ret (v := .tuple #[.agg #[.bool false, .string ⟨#[]⟩, .string ⟨#[]⟩, .slice none 0 0], .int .i64 2]) (by simp [results, Tryd.results34, go_sem, r0, r1, r2, r3]) rfl ?_
    exact ⟨_, by rw [unhide HO], ⟨_, by rw [unhide HO], by rw [unhide HO]; exact OwnP.nil _ _⟩, unhide B0⟩
  have HTX : Hid (txC key.size 1 24 = if okK key = true then 0 else 1) := hide (by unfold txC; rw [if_neg h1, okK_in])
  clear hB hk hv
  go_enter Tryd.func34, Tryd.ntmps34
  go_wp2_with fail
  generalize (w.alloc (.cells #[.string k, .string v, .int .i64 a, .slice sa ks.length cap] 32)).alloc (.cells #[.bool false, .string ⟨#[]⟩, .string ⟨#[]⟩, .slice none 0 0] 51) = w1 at *
  generalize w.heap.size + 1 = rb at *
  refine (unhide HM w1 (unhide B0)).mono ?_
  rintro e w2 ⟨rfl, hb2⟩
  have B2 := hide ((unhide B0).trans (hb2.mono (unhide B0).size))
  have X2 := hide ((unhide X0).below hb2)
  have R2 := hide ((unhide R0).below hb2)
  clear hb2 X0 R0 B0
  have x0 := (unhide X2).cell 0 rfl
  have x1 := (unhide X2).cell 1 rfl
  have x2 := (unhide X2).cell 2 rfl
  have x3 := (unhide X2).cell 3 rfl
  rw [unhide HMB]
  cases hmv : mapV (.mk k v a ks) with
  | none =>
    have HO : Hid (pfOut (.mk k v a ks) key = ⟨false, (⟨#[]⟩, ⟨#[]⟩), [], 1⟩) := hide (by
      unfold pfOut
      rw [hmv, unhide HTX]
      cases okK key <;> rfl)
    clear hmv HGT HTX HM
    rw [show (none : Option (Option Tr)).isSome = false from rfl]
    have r0 := (unhide R2).cell 0 rfl
    have r1 := (unhide R2).cell 1 rfl
    have r2 := (unhide R2).cell 2 rfl
    have r3 := (unhide R2).cell 3 rfl
    have f0 := (unhide R2).fro 0
    have f1 := (unhide R2).fro 1
    have f2 := (unhide R2).fro 2
    have f3 := (unhide R2).fro 3
    have hE := end4 (.bool false) (.string ⟨#[]⟩) (.string ⟨#[]⟩) (.slice none 0 0) (unhide R2) (unhide B2) (OwnP.nil w2.heap.size w2) (unhide HSZ) (unhide R2).1 (unhide B2).size
    have z0 := hE.1.cell 0 rfl
    have z1 := hE.1.cell 1 rfl
    have z2 := hE.1.cell 2 rfl
    have z3 := hE.1.cell 3 rfl
    have HE := hide hE
    unfold set4 at z0 z1 z2 z3
    clear hE
    go_wp2_with fail
    refine bodyPost_ret (v := .tuple #[.agg #[.bool false, .string ⟨#[]⟩, .string ⟨#[]⟩, .slice none 0 0], .int .i64 1]) (by simp [results, Tryd.results34, go_sem, z0, z1, z2, z3]) rfl ?_
    exact ⟨_, by rw [unhide HO], ⟨_, by rw [unhide HO], by rw [unhide HO]; exact (unhide HE).2.1⟩, (unhide HE).2.2⟩
  | some o =>
    rw [show (some o).isSome = true from rfl]
    have HO : Hid (pfOut (.mk k v a ks) key = if okK key = true then ⟨pkFound o key, pkKV o key, pkSteps o key, 0⟩ else ⟨false, (⟨#[]⟩, ⟨#[]⟩), [], 1⟩) := hide (by
      unfold pfOut
      rw [hmv, unhide HTX]
      cases okK key <;> rfl)
    have HG2 := hide (fun h24 => unhide HGT h24 o hmv w2 (unhide B2))
    clear hmv HGT HTX HM
    generalize okK key = ok at *
    go_wp2_with fail
    refine (unhide HKY w2).mono ?_
    rintro e w9 ⟨rfl, hw9⟩
    subst w9
    cases ok
    · rw [if_neg (by simp)] at HO
      clear HG2
      have r0 := (unhide R2).cell 0 rfl
      have r1 := (unhide R2).cell 1 rfl
      have r2 := (unhide R2).cell 2 rfl
      have r3 := (unhide R2).cell 3 rfl
      have f0 := (unhide R2).fro 0
      have f1 := (unhide R2).fro 1
      have f2 := (unhide R2).fro 2
      have f3 := (unhide R2).fro 3
      have hE := end4 (.bool false) (.string ⟨#[]⟩) (.string ⟨#[]⟩) (.slice none 0 0) (unhide R2) (unhide B2) (OwnP.nil w2.heap.size w2) (unhide HSZ) (unhide R2).1 (unhide B2).size
      have z0 := hE.1.cell 0 rfl
      have z1 := hE.1.cell 1 rfl
      have z2 := hE.1.cell 2 rfl
      have z3 := hE.1.cell 3 rfl
      have HE := hide hE
      unfold set4 at z0 z1 z2 z3
      clear hE
      go_wp2_with fail
      refine bodyPost_ret (v := .tuple #[.agg #[.bool false, .string ⟨#[]⟩, .string ⟨#[]⟩, .slice none 0 0], .int .i64 1]) (by simp [results, Tryd.results34, go_sem, z0, z1, z2, z3]) rfl ?_
      exact ⟨_, by rw [unhide HO], ⟨_, by rw [unhide HO], by rw [unhide HO]; exact (unhide HE).2.1⟩, (unhide HE).2.2⟩
    rw [if_pos rfl] at HO
    have HG3 := hide (unhide HG2 ((unhide HOK).1 rfl).2)
    clear HG2
    go_wp2_with fail
    refine (unhide HG3).mono ?_
    rintro e w3 ⟨u, rfl, ⟨sv, rfl, hO3⟩, hb3⟩
    have B3 := hide ((unhide B2).trans (hb3.mono (unhide B2).size))
    have R3 := hide ((unhide R2).below hb3)
    have O3 := hide hO3
    have hrb : rb < w2.heap.size := (unhide R2).1
    have S2 := hide (unhide B2).size
    clear hb3 HG3 hO3 B2 R2 X2 x0 x1 x2 x3
    generalize pkFound o key = ff at *
    generalize pkKV o key = kk at *
    generalize pkSteps o key = st at *
    obtain ⟨kk, vv⟩ := kk
    obtain ⟨ga, gc, hsv, _⟩ := (unhide O3).pks
    rw [hsv] at O3 ⊢
    have r0 := (unhide R3).cell 0 rfl
    have r1 := (unhide R3).cell 1 rfl
    have r2 := (unhide R3).cell 2 rfl
    have r3 := (unhide R3).cell 3 rfl
    have f0 := (unhide R3).fro 0
    have f1 := (unhide R3).fro 1
    have f2 := (unhide R3).fro 2
    have f3 := (unhide R3).fro 3
    have hE := end4 (.bool ff) (.string kk) (.string vv) (.slice ga st.length gc) (unhide R3) (unhide B3) (unhide O3) (unhide HSZ) hrb (unhide S2)
    have z0 := hE.1.cell 0 rfl
    have z1 := hE.1.cell 1 rfl
    have z2 := hE.1.cell 2 rfl
    have z3 := hE.1.cell 3 rfl
    have HE := hide hE
    unfold set4 at z0 z1 z2 z3
    clear hE hsv
    go_wp2_with fail
    refine bodyPost_ret (v := .tuple #[.agg #[.bool ff, .string kk, .string vv, .slice ga st.length gc], .int .i64 0]) (by simp [results, Tryd.results34, go_sem, z0, z1, z2, z3]) rfl ?_
    exact ⟨_, by rw [unhide HO], ⟨_, by rw [unhide HO], by rw [unhide HO]; exact (unhide HE).2.1⟩, (unhide HE).2.2⟩
end Go.Proofs.YtdkljgkpogcjeaaDoor.Sha
