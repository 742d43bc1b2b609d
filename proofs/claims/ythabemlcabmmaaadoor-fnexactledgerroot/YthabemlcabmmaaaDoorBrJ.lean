/- spec.MapRoot. -/
import Derived.Test.YthabemlcabmmaaaDoorBrH
namespace Go.Proofs.YthabemlcabmmaaaDoor.Sha
open Go.ChangeShapes Go.WideShapes Go.ChangeAt Go.RowKit
set_option linter.unusedVariables false
set_option linter.unusedSimpArgs false

set_option maxRecDepth 100000 in
set_option maxHeartbeats 1000000 in
theorem l07RootO_any (o : Option Tr) (hok : OkO o) (S : Nat → Prop) (kv : Value) (w : World) (hB : Brs S w kv (brOf o).kids) :
    Calls Tryd.prog 117 #[.agg #[.string (brOf o).key, .string (brOf o).val, .int .i64 (brOf o).at_, kv]] w fun e w' => e = .returned (.string (rootR o)) ∧ Below w.heap.size w w' := by
  cases o with
  | some t => exact l07Root_any t hok S kv w hB
  | none =>
    obtain ⟨sa, cap, rfl, _, hcm⟩ := hB.shape
    dsimp only [brOf, Br.key, Br.val, Br.at_, Br.kids] at hB ⊢
    have B0 := hide ((Below.refl w.heap.size w).alloc (Nat.le_refl _) (.cells #[.string ⟨#[]⟩, .string ⟨#[]⟩, .int .i64 0, .slice sa 0 cap] 60))
    have HE := hide (fun wx => l07Empty_any ⟨#[]⟩ ⟨#[]⟩ 0 [] sa cap wx (by simp))
    have he : emptyBr (.mk ⟨#[]⟩ ⟨#[]⟩ 0 []) = true := (empty_iff _ _ _ _).2 ⟨rfl, rfl, rfl, rfl⟩
    rw [he] at HE
    simp only [List.length_nil] at HE
    have HV : Hid (rootR none = strOfNums (textL (stAt [2] (padLen ([2] : List Int).length / 64)))) := hide (hashV_yes (l := [2]) (by simp))
    clear hB he
    go_enter Tryd.func117, Tryd.ntmps117
    go_wp2_with fail
    generalize w.alloc (.cells #[.string ⟨#[]⟩, .string ⟨#[]⟩, .int .i64 0, .slice sa 0 cap] 60) = w1 at *
    refine (unhide HE w1).mono ?_
    rintro e w2 ⟨rfl, hb2⟩
    have B2 := hide ((unhide B0).trans (hb2.mono (unhide B0).size))
    have hBy : Bytes (w2.alloc (.cells #[.int .u8 2] 5)) (.slice (some ⟨w2.heap.size, 0, none⟩) ([2] : List Int).length 1) [2] := by
      refine OwnB.bytes (B := w2.heap.size) ⟨own_lit (heap_new rfl) (Nat.le_refl _) rfl (by unfold maxLen; simp), fun i => ?_⟩
      match i with
      | 0 => simp
      | i + 1 => simp
    have HL := hide (l01Hash_any _ _ [2] _ hBy (by simp))
    have B3 := hide ((unhide B2).alloc (unhide B2).size (.cells #[.int .u8 2] 5))
    have hl1 : ([2] : List Int).length = 1 := rfl
    rw [hl1] at HL HV
    clear hb2 hBy hl1
    go_wp2_with fail
    refine (unhide HL).mono ?_
    rintro e w3 ⟨rfl, hb3⟩
    have K := hide ((unhide B3).trans (hb3.mono (unhide B3).size))
    clear hb3
    rw [← unhide HV]
    go_wp2_with fail
    go_ret
    exact ⟨rfl, unhide K⟩
end Go.Proofs.YthabemlcabmmaaaDoor.Sha
