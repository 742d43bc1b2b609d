/- find, openMap; impl.MapGet. -/
import Derived.Test.YtgmaappilopgbaaDoorBrU
namespace Go.Proofs.YtgmaappilopgbaaDoor.Sha
open Go.ChangeShapes Go.WideShapes Go.ChangeAt Go.RowKit
set_option linter.unusedVariables false
set_option linter.unusedSimpArgs false

/-- What find answers: the leaf of the key, or nil. -/
def FindR (o : Option Tr) (key : ByteArray) (w : World) (e : Ending) (w' : World) : Prop := ∃ qv, e = .returned (.pointer qv) ∧ Below w.heap.size w w' ∧
  ((qv = none ∧ ∀ t, o = some t → (leadL (kh key) t).1 ≠ key) ∨ ∃ t q, o = some t ∧ (leadL (kh key) t).1 = key ∧ qv = some ⟨q, 0, none⟩ ∧ Blk w' q (lfC key (leadL (kh key) t).2))
/-- What openMap answers. -/
def OpenR (b : Br) (key : ByteArray) (w : World) (e : Ending) (w' : World) : Prop := ∃ pv c, e = .returned (.tuple #[.pointer pv, .int .i64 c]) ∧ Below w.heap.size w w' ∧
  ((txC key.size 1 24 ≠ 0 ∧ c = txC key.size 1 24 ∧ pv = none) ∨ (txC key.size 1 24 = 0 ∧ mapV b = none ∧ c = 1 ∧ pv = none) ∨ (txC key.size 1 24 = 0 ∧ c = 0 ∧ ∃ o, mapV b = some o ∧ PtrM w' (fun x => w.heap.size ≤ x ∧ x < w'.heap.size) pv o))
set_option maxRecDepth 100000 in
set_option maxHeartbeats 1000000 in
theorem openMap_any (k v : ByteArray) (a : Int) (ks : List Br) (key : ByteArray) (S : Nat → Prop) (kv : Value) (w : World) (hB : Brs S w kv ks) (hk : k.size ≤ maxLen) (hv : v.size ≤ maxLen) (hky : key.size ≤ 1048576) (ht : Tab w) :
    Calls Tryd.prog 37 #[.agg #[.string k, .string v, .int .i64 a, kv], .string key] w fun e w' => OpenR (.mk k v a ks) key w e w' := by
  obtain ⟨sa, cap, rfl, hcap, hcm⟩ := hB.shape
  have B0 := hide ((Below.refl w.heap.size w).alloc (Nat.le_refl _) (.cells #[.string k, .string v, .int .i64 a, .slice sa ks.length cap] 28))
  have HR := hide (readMap_any k v a ks S _ _ (hB.blw (unhide B0)) hk hv (ht.below (unhide B0)))
  have HF := hide (fun wx => keyFault_any key wx (by unfold maxLen; omega))
  have HM := hide (mapB_V (.mk k v a ks))
  have HC := hide (txC_cases key.size 1 24)
  have HO : Hid (∀ pv c w', Below w.heap.size w w' → ((txC key.size 1 24 ≠ 0 ∧ c = txC key.size 1 24 ∧ pv = none) ∨ (txC key.size 1 24 = 0 ∧ mapV (.mk k v a ks) = none ∧ c = 1 ∧ pv = none) ∨ (txC key.size 1 24 = 0 ∧ c = 0 ∧ ∃ o, mapV (.mk k v a ks) = some o ∧ PtrM w' (fun x => w.heap.size ≤ x ∧ x < w'.heap.size) pv o)) → OpenR (.mk k v a ks) key w (.returned (.tuple #[.pointer pv, .int .i64 c])) w') := hide (fun pv c w' hb h => ⟨pv, c, rfl, hb, h⟩)
  have hz0 : w.heap.size ≤ (w.alloc (.cells #[.string k, .string v, .int .i64 a, .slice sa ks.length cap] 28)).heap.size := (unhide B0).size
  clear hB ht hk hv
  generalize txC key.size 1 24 = c at *
  go_enter Tryd.func37, Tryd.ntmps37
  go_wp2_with fail
  refine (unhide HF _).mono ?_
  rintro e w9 ⟨rfl, hw9⟩
  subst w9
  by_cases hc : c = 0
  case neg =>
    have hcb : (c != 0) = true := by simpa using hc
    have HCN := hide hc
    clear hc
    go_wp2_with fail
    go_ret2
    exact unhide HO none c _ (unhide B0) (.inl ⟨unhide HCN, rfl, rfl⟩)
  subst hc
  go_wp2_with fail
  refine (unhide HR).mono ?_
  rintro e w2 ⟨pv, rfl, hb, hpm⟩
  have B2 := hide ((unhide B0).trans (hb.mono (unhide B0).size))
  have HP := hide hpm
  clear hb HR hpm
  rw [unhide HM]
  cases hmv : mapV (.mk k v a ks) with
  | none =>
    rw [hmv] at HO HP
    have HPN := hide (show pv = none from unhide HP)
    clear hmv HP
    rw [show (none : Option (Option Tr)).isSome = false from rfl]
    go_wp2_with fail
    go_ret2
    exact unhide HO none 1 w2 (unhide B2) (.inr (.inl ⟨by simp, by simp, by simp, by simp⟩))
  | some o =>
    rw [hmv] at HO HP
    clear hmv
    rw [show (some o).isSome = true from rfl]
    go_wp2_with fail
    go_ret2
    refine unhide HO pv 0 w2 (unhide B2) (.inr (.inr ⟨by simp, by simp, o, by simp, ?_⟩))
    have hp := unhide HP
    cases o with
    | none => exact hp
    | some t => obtain ⟨p, h1, h2⟩ := hp; exact ⟨p, h1, h2.mono (fun x hx => ⟨Nat.le_trans hz0 hx.1, hx.2⟩)⟩
/-- The value at a key. -/
def getV (o : Option Tr) (key : ByteArray) : Option ByteArray := match o with
  | none => none
  | some t => if (leadL (kh key) t).1 = key then some (leadL (kh key) t).2 else none
--FI
end Go.Proofs.YtgmaappilopgbaaDoor.Sha
