/- readMap, impl.MapOK. -/
import Derived.Test.YtnajpeaieeaflaaDoorBrD
namespace Go.Proofs.YtnajpeaieeaflaaDoor.Sha
open Go.ChangeShapes Go.WideShapes Go.ChangeAt Go.RowKit
set_option linter.unusedVariables false
set_option linter.unusedSimpArgs false

theorem Brs.bound {S : Nat → Prop} {w : World} {v : Value} {l : List Br} (h : Brs S w v l) : Brs (fun x => x < w.heap.size) w v l := by
  induction h with
  | nil a cap hc => exact .nil a cap hc
  | row b off cap l kv h0 h1 h2 h3 h4 h5 h6 h7 ih => exact .row b off cap l kv h0 h1 h2 h3 h3 h5 h6 ih
/-- The map that a branch is: none if it is not right, some none if it is empty. -/
def mapV (b : Br) : Option (Option Tr) := if emptyBr b = true then some none else match readV b 0 40 with
  | some (t, _) => some (some t)
  | none => none
theorem mapB_V (b : Br) : mapB b = (mapV b).isSome := by
  unfold mapB mapV
  cases emptyBr b
  · cases h : readV b 0 40 with
    | none => rfl
    | some p => rfl
  · rfl
/-- The pointer leads to the nodes of this map. -/
def PtrM (w : World) (S : Nat → Prop) (pv : Option Addr) : Option Tr → Prop
  | none => pv = none
  | some t => ∃ p, pv = some ⟨p, 0, none⟩ ∧ Nd w S p t
theorem PtrM.blw {w w' : World} {S : Nat → Prop} {pv : Option Addr} {o : Option Tr} (h : PtrM w S pv o) (hb : Below w.heap.size w w') : PtrM w' S pv o := by
  cases o with
  | none => exact h
  | some t => obtain ⟨p, h1, h2⟩ := h; exact ⟨p, h1, h2.blw hb⟩
/-- What readMap answers. -/
def ReadR (b : Br) (w : World) (e : Ending) (w' : World) : Prop := ∃ pv, e = .returned (.tuple #[.pointer pv, .bool (mapB b)]) ∧ Below w.heap.size w w' ∧ match mapV b with
  | none => pv = none
  | some o => PtrM w' (fun x => w.heap.size ≤ x ∧ x < w'.heap.size) pv o
theorem empty_iff (k v : ByteArray) (a : Int) (l : List Br) : emptyBr (.mk k v a l) = true ↔ k = ⟨#[]⟩ ∧ v = ⟨#[]⟩ ∧ a = 0 ∧ l.length = 0 := by
  unfold emptyBr
  simp only [Br.key, Br.val, Br.at_, Br.kids, Bool.and_eq_true]
  constructor
  · rintro ⟨h1, h2, h3, h4⟩; exact ⟨empty_size (of_decide_eq_true h1), empty_size (of_decide_eq_true h2), of_decide_eq_true h3, of_decide_eq_true h4⟩
  · rintro ⟨rfl, rfl, h3, h4⟩; exact ⟨rfl, rfl, decide_eq_true h3, decide_eq_true h4⟩
set_option maxRecDepth 100000 in
set_option maxHeartbeats 2000000 in
theorem readMap_any (k v : ByteArray) (a : Int) (ks : List Br) (S : Nat → Prop) (kv : Value) (w : World) (hB : Brs S w kv ks) (hk : k.size ≤ maxLen) (hv : v.size ≤ maxLen) (ht : Tab w) :
    Calls Tryd.prog 17 #[.agg #[.string k, .string v, .int .i64 a, kv]] w fun e w' => ReadR (.mk k v a ks) w e w' := by
  obtain ⟨sa, cap, rfl, hcap, hcm⟩ := hB.shape
  have HE := hide (empty_iff k v a ks)
  have hlm : ks.length ≤ 9223372036854775807 := by unfold maxLen at hcm; omega
  have B0 := hide ((Below.refl w.heap.size w).alloc (Nat.le_refl _) (.cells #[.string k, .string v, .int .i64 a, .slice sa ks.length cap] 25))
  have B1 := hide ((unhide B0).alloc (unhide B0).size (.cells #[.int .i64 40] 78))
  have R1 := hide (Blk.new (w.alloc (.cells #[.string k, .string v, .int .i64 a, .slice sa ks.length cap] 25)) #[.int .i64 40] 78 (w.heap.size + 1) (by simp))
  have X1 := hide ((Blk.new w #[.string k, .string v, .int .i64 a, .slice sa ks.length cap] 25 w.heap.size rfl).alloc (.cells #[.int .i64 40] 78))
  have HN := hide (node_any _ (.mk k v a ks) (Nat.le_refl _) (fun x => x < w.heap.size) 0 40 (w.heap.size + 1) (.slice sa ks.length cap) w _ (hB.bound.blw (unhide B1)) (fun x hx => by omega) hk hv (by omega) (unhide R1) (by omega) ht (unhide B1) (by omega))
  have HYES := hide (fun (h : emptyBr (.mk k v a ks) = true) => show mapV (.mk k v a ks) = some none by unfold mapV; rw [if_pos h])
  have HNO := hide (fun (h : ¬ emptyBr (.mk k v a ks) = true) => show mapV (.mk k v a ks) = (match readV (.mk k v a ks) 0 40 with | some (t, _) => some (some t) | none => none) by unfold mapV; rw [if_neg h])
  have HMB := hide (mapB_V (.mk k v a ks))
  dsimp only [Br.key, Br.val, Br.at_, Br.kids] at HN
  have HMR : Hid (∀ pv w', Below w.heap.size w w' → emptyBr (.mk k v a ks) = true → pv = none → ReadR (.mk k v a ks) w (.returned (.tuple #[.pointer pv, .bool true])) w') := hide (fun pv w' hb he hp => by
    have h1 := unhide HYES he
    refine ⟨pv, ?_, hb, ?_⟩
    · rw [unhide HMB, h1]; rfl
    · rw [h1]; exact hp)
  have HMN : Hid (¬ emptyBr (.mk k v a ks) = true → ∀ pv w1 w', Below w.heap.size w w1 → w1.heap.size ≤ w'.heap.size → NodeQ (.mk k v a ks) 0 40 (w.heap.size + 1) w1 pv w' → ReadR (.mk k v a ks) w (.returned (.tuple #[.pointer pv, .bool pv.isSome])) w') := hide (fun he pv w1 w' hb1 hs hq => by
    have h1 := unhide HNO he
    obtain ⟨hT, ⟨h2, h3⟩ | ⟨t, r, p, h2, h3, h4, h5⟩⟩ := hq
    · rw [h2] at h1
      subst h3
      refine ⟨none, by rw [unhide HMB, h1]; rfl, hb1.trans (hT.below hb1.size (fun x hx h => by omega)), by rw [h1]⟩
    · rw [h2] at h1
      subst h3
      refine ⟨_, by rw [unhide HMB, h1]; rfl, hb1.trans (hT.below hb1.size (fun x hx h => by omega)), ?_⟩
      rw [h1]
      exact ⟨p, rfl, h4.mono (fun x hx => ⟨Nat.le_trans hb1.size hx.1, hx.2⟩)⟩)
  clear hB hk hv ht hcm hcap HYES HNO HMB
  have HRR := hide (fun e w' (h : ReadR (.mk k v a ks) w e w') => h)
  have hz : (w.alloc (.cells #[.string k, .string v, .int .i64 a, .slice sa ks.length cap] 25)).heap.size = w.heap.size + 1 := by simp
  by_cases he : k = ⟨#[]⟩ ∧ v = ⟨#[]⟩ ∧ a = 0 ∧ ks.length = 0
  · have HEE := hide ((unhide HE).2 he)
    obtain ⟨h1, h2, h3, h4⟩ := he
    have HM := hide (unhide HMR none _ (unhide B0) (unhide HEE) rfl)
    clear HMR HMN HN HE HEE X1 R1 B1 hz
    have hkb : k.toList.isEmpty = true := emptyB_iff.2 (by rw [h1]; rfl)
    have hvb : v.toList.isEmpty = true := emptyB_iff.2 (by rw [h2]; rfl)
    have hab : (a == 0) = true := by simpa using h3
    have hlb : ((ks.length : Int) == 0) = true := by simpa using h4
    clear h1 h2 h3 h4 HRR
    go_enter Tryd.func17, Tryd.ntmps17
    go_wp2_with fail
    go_ret2
    exact unhide HM
  · have HEN := hide (unhide HMN (fun h => he ((unhide HE).1 h)))
    clear HMR HMN HE HRR
    by_cases h1 : k = ⟨#[]⟩
    case neg =>
      have hkb := ne_empty h1
      clear he h1
      go_enter Tryd.func17, Tryd.ntmps17
      go_wp2_with fail
      refine (unhide HN).mono ?_
      rintro e w2 ⟨pv, rfl, hn⟩
      have HF := hide (unhide HEN pv _ w2 (unhide B1) hn.1.size hn)
      clear hn HN HEN X1 R1 B1 B0
      cases pv
      · go_wp2_with fail
        go_ret2
        exact unhide HF
      · go_wp2_with fail
        go_ret2
        exact unhide HF
    by_cases h2 : v = ⟨#[]⟩
    case neg =>
      have hkb : k.toList.isEmpty = true := emptyB_iff.2 (by rw [h1]; rfl)
      have hvb := ne_empty h2
      clear he h1 h2
      go_enter Tryd.func17, Tryd.ntmps17
      go_wp2_with fail
      refine (unhide HN).mono ?_
      rintro e w2 ⟨pv, rfl, hn⟩
      have HF := hide (unhide HEN pv _ w2 (unhide B1) hn.1.size hn)
      clear hn HN HEN X1 R1 B1 B0
      cases pv
      · go_wp2_with fail
        go_ret2
        exact unhide HF
      · go_wp2_with fail
        go_ret2
        exact unhide HF
    by_cases h3 : a = 0
    case neg =>
      have hkb : k.toList.isEmpty = true := emptyB_iff.2 (by rw [h1]; rfl)
      have hvb : v.toList.isEmpty = true := emptyB_iff.2 (by rw [h2]; rfl)
      have hab : (a == 0) = false := by simpa using h3
      clear he h1 h2 h3
      go_enter Tryd.func17, Tryd.ntmps17
      go_wp2_with fail
      refine (unhide HN).mono ?_
      rintro e w2 ⟨pv, rfl, hn⟩
      have HF := hide (unhide HEN pv _ w2 (unhide B1) hn.1.size hn)
      clear hn HN HEN X1 R1 B1 B0
      cases pv
      · go_wp2_with fail
        go_ret2
        exact unhide HF
      · go_wp2_with fail
        go_ret2
        exact unhide HF
    have h4 : ¬ ks.length = 0 := fun h => he ⟨h1, h2, h3, h⟩
    have hkb : k.toList.isEmpty = true := emptyB_iff.2 (by rw [h1]; rfl)
    have hvb : v.toList.isEmpty = true := emptyB_iff.2 (by rw [h2]; rfl)
    have hab : (a == 0) = true := by simpa using h3
    have hlb : ((ks.length : Int) == 0) = false := by rw [beq_eq_false_iff_ne]; omega
    clear he h1 h2 h3 h4
    go_enter Tryd.func17, Tryd.ntmps17
    go_wp2_with fail
    refine (unhide HN).mono ?_
    rintro e w2 ⟨pv, rfl, hn⟩
    have HF := hide (unhide HEN pv _ w2 (unhide B1) hn.1.size hn)
    clear hn HN HEN X1 R1 B1 B0
    cases pv
    · go_wp2_with fail
      go_ret2
      exact unhide HF
    · go_wp2_with fail
      go_ret2
      exact unhide HF
end Go.Proofs.YtnajpeaieeaflaaDoor.Sha
