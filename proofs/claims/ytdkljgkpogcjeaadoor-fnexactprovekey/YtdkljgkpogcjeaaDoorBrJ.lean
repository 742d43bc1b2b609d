/- spec.MapRoot. -/
import Derived.Test.YtdkljgkpogcjeaaDoorBrH
namespace Go.Proofs.YtdkljgkpogcjeaaDoor.Sha
open Go.ChangeShapes Go.WideShapes Go.ChangeAt Go.RowKit
set_option linter.unusedVariables false
set_option linter.unusedSimpArgs false

set_option maxRecDepth 100000 in
set_option maxHeartbeats 1000000 in
theorem l07RootO_any (o : Option Tr) (hok : OkO o) (S : Nat → Prop) (kv : Value) (w : World) (hB : Brs S w kv (brOf o).kids) :
    Calls Tryd.prog 75 #[.agg #[.string (brOf o).key, .string (brOf o).val, .int .i64 (brOf o).at_, kv]] w fun e w' => e = .returned (.string (rootR o)) ∧ Below w.heap.size w w' := by
  cases o with
  | some t => exact l07Root_any t hok S kv w hB
  | none =>
    obtain ⟨sa, cap, rfl, _, hcm⟩ := hB.shape
    dsimp only [brOf, Br.key, Br.val, Br.at_, Br.kids] at hB ⊢
    have B0 := hide ((Below.refl w.heap.size w).alloc (Nat.le_refl _) (.cells #[.string ⟨#[]⟩, .string ⟨#[]⟩, .int .i64 0, .slice sa 0 cap] 32))
    have HE := hide (fun wx => l07Empty_any ⟨#[]⟩ ⟨#[]⟩ 0 [] sa cap wx (by simp))
    have he : emptyBr (.mk ⟨#[]⟩ ⟨#[]⟩ 0 []) = true := (empty_iff _ _ _ _).2 ⟨rfl, rfl, rfl, rfl⟩
    rw [he] at HE
    simp only [List.length_nil] at HE
    have HV : Hid (rootR none = strOfNums (textL (stAt [2] (padLen ([2] : List Int).length / 64)))) := hide (hashV_yes (l := [2]) (by simp))
    clear hB he
    go_enter Tryd.func75, Tryd.ntmps75
    go_wp2_with fail
    generalize w.alloc (.cells #[.string ⟨#[]⟩, .string ⟨#[]⟩, .int .i64 0, .slice sa 0 cap] 32) = w1 at *
    refine (unhide HE w1).mono ?_
    rintro e w2 ⟨rfl, hb2⟩
    have B2 := hide ((unhide B0).trans (hb2.mono (unhide B0).size))
    have hBy : Bytes (w2.alloc (.cells #[.int .u8 2] 5)) (.slice (some ⟨w2.heap.size, 0, none⟩) ([2] : List Int).length 1) [2] := by
      refine OwnB.bytes (B := w2.heap.size) ⟨own_lit (heap_new rfl) (Nat.le_refl _) rfl (by unfold maxLen; simp), fun i => ?_⟩
      match i with
      | 0 => simp
      | i + 1 => simp
    have HL := hide (l01Hash_any _ _ [2] _ hBy (by simp))
    have B3 := hide ((unhide B2).alloc (unhide B2).size (.cells #[.int .u8 2] 5))
    have hl1 : ([2] : List Int).length = 1 := rfl
    rw [hl1] at HL HV
    clear hb2 hBy hl1
    go_wp2_with fail
    refine (unhide HL).mono ?_
    rintro e w3 ⟨rfl, hb3⟩
    have K := hide ((unhide B3).trans (hb3.mono (unhide B3).size))
    clear hb3
    rw [← unhide HV]
    go_wp2_with fail
    go_ret
    exact ⟨rfl, unhide K⟩
set_option maxRecDepth 100000 in
set_option maxHeartbeats 1000000 in
theorem specMapRoot_any (k v : ByteArray) (a : Int) (ks : List Br) (S : Nat → Prop) (kv : Value) (w : World) (hB : Brs S w kv ks) (hk : k.size ≤ maxLen) (hv : v.size ≤ maxLen) :
    Calls Tryd.prog 32 #[.agg #[.string k, .string v, .int .i64 a, kv]] w fun e w' => e = .returned (mrOut (.mk k v a ks)) ∧ Below w.heap.size w w' := by
  obtain ⟨sa, cap, rfl, hcap, hcm⟩ := hB.shape
  have B0 := hide ((Below.refl w.heap.size w).alloc (Nat.le_refl _) (.cells #[.string k, .string v, .int .i64 a, .slice sa ks.length cap] 32))
  have X0 := hide (Blk.new w #[.string k, .string v, .int .i64 a, .slice sa ks.length cap] 32 w.heap.size rfl)
  have HM := hide (fun wx (hx : Below w.heap.size w wx) => specMapOK_any k v a ks S _ wx (hB.blw hx) hk hv)
  have HMB := hide (mapB_V (.mk k v a ks))
  have HO : Hid (mrOut (.mk k v a ks) = match mapV (.mk k v a ks) with | none => .tuple #[.string ⟨#[]⟩, .int .i64 1] | some o => .tuple #[.string (rootR o), .int .i64 0]) := rfl
  have HRT := hide (fun o (h : mapV (.mk k v a ks) = some o) wx (hx : Below w.heap.size w wx) => show Calls Tryd.prog 75 #[.agg #[.string k, .string v, .int .i64 a, .slice sa ks.length cap]] wx fun e w' => e = .returned (.string (rootR o)) ∧ Below wx.heap.size wx w' by
    obtain ⟨h1, h2⟩ := mapV_br h
    have hx2 := hB.blw hx
    have q := l07RootO_any o h2 S (.slice sa ks.length cap) wx (by rw [← h1]; exact hx2)
    rw [← h1] at q
    exact q)
  clear hB hk hv
  go_enter Tryd.func32, Tryd.ntmps32
  go_wp2_with fail
  generalize w.alloc (.cells #[.string k, .string v, .int .i64 a, .slice sa ks.length cap] 32) = w1 at *
  refine (unhide HM w1 (unhide B0)).mono ?_
  rintro e w2 ⟨rfl, hb2⟩
  have B2 := hide ((unhide B0).trans (hb2.mono (unhide B0).size))
  have X2 := hide ((unhide X0).below hb2)
  clear hb2
  have x0 := (unhide X2).cell 0 rfl
  have x1 := (unhide X2).cell 1 rfl
  have x2 := (unhide X2).cell 2 rfl
  have x3 := (unhide X2).cell 3 rfl
  rw [unhide HMB]
  cases hmv : mapV (.mk k v a ks) with
  | none =>
    rw [hmv] at HO
    clear hmv HRT
    rw [show (none : Option (Option Tr)).isSome = false from rfl]
    go_wp2_with fail
    go_ret2
    exact ⟨by rw [unhide HO]; rfl, unhide B2⟩
  | some o =>
    rw [hmv] at HO
    have HRO := hide (unhide HRT o hmv w2 (unhide B2))
    clear hmv HRT
    rw [show (some o).isSome = true from rfl]
    go_wp2_with fail
    refine (unhide HRO).mono ?_
    rintro e w3 ⟨rfl, hb3⟩
    have B3 := hide ((unhide B2).trans (hb3.mono (unhide B2).size))
    clear hb3
    go_wp2_with fail
    go_ret2
    exact ⟨by rw [unhide HO]; rfl, unhide B3⟩
theorem mr_cases (b : Br) : ∃ s c, mrOut b = .tuple #[.string s, .int .i64 c] := by
  unfold mrOut
  split
  · exact ⟨_, _, rfl⟩
  · exact ⟨_, _, rfl⟩
end Go.Proofs.YtdkljgkpogcjeaaDoor.Sha
