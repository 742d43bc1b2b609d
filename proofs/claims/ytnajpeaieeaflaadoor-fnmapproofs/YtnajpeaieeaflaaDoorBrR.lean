/- A map read into nodes: (*mapReader).leaf, (*mapReader).node, readMap; impl.MapOK. -/
import Derived.Test.YtnajpeaieeaflaaDoorBrN
import Derived.Test.YtnajpeaieeaflaaDoorQb
namespace Go.Proofs.YtnajpeaieeaflaaDoor.Sha
open Go.ChangeShapes Go.WideShapes Go.ChangeAt Go.RowKit
set_option linter.unusedVariables false
set_option linter.unusedSimpArgs false

/-- What leaf leaves: a new leaf, the room one less; or nil. -/
def LeafR (k v : ByteArray) (n room rb : Nat) (w : World) (e : Ending) (w' : World) : Prop :=
  (if okK k = true ∧ v.size ≤ 60 ∧ n = 0 ∧ room ≠ 0 then ∃ p, e = .returned (.pointer (some ⟨p, 0, none⟩)) ∧ w.heap.size ≤ p ∧ Blk w' p (lfC k v) ∧ Blk w' rb [.int .i64 (room - 1 : Nat)] else e = .returned (.pointer none)) ∧ Touch (fun b => b = rb) w w'
theorem LeafR.no {k v : ByteArray} {n room rb : Nat} {w w' : World} (h : ¬ (okK k = true ∧ v.size ≤ 60 ∧ n = 0 ∧ room ≠ 0)) (ht : Touch (fun b => b = rb) w w') : LeafR k v n room rb w (.returned (.pointer none)) w' := by
  unfold LeafR; rw [if_neg h]; exact ⟨rfl, ht⟩
theorem LeafR.yes {k v : ByteArray} {n room rb p : Nat} {w w' : World} (h : okK k = true ∧ v.size ≤ 60 ∧ n = 0 ∧ room ≠ 0) (h1 : w.heap.size ≤ p) (h2 : Blk w' p (lfC k v)) (h3 : Blk w' rb [.int .i64 (room - 1 : Nat)]) (ht : Touch (fun b => b = rb) w w') : LeafR k v n room rb w (.returned (.pointer (some ⟨p, 0, none⟩))) w' := by
  unfold LeafR; rw [if_pos h]; exact ⟨⟨p, rfl, h1, h2, h3⟩, ht⟩
set_option maxRecDepth 100000 in
set_option maxHeartbeats 1000000 in
theorem leaf_any (k v : ByteArray) (at_ : Int) (a : Option Addr) (n cap : Nat) (rb room : Nat) (w0 w : World) (hk : k.size ≤ maxLen) (hv : v.size ≤ maxLen) (hn : n ≤ maxLen) (hr : Blk w rb [.int .i64 room]) (hroom : room ≤ 40) (ht : Tab w0) (hb0 : Below w0.heap.size w0 w) (hrb : w0.heap.size ≤ rb) :
    Calls Tryd.prog 77 #[.pointer (some ⟨rb, 0, none⟩), .agg #[.string k, .string v, .int .i64 at_, .slice a n cap]] w fun e w' => LeafR k v n room rb w e w' := by
  have X0 := hide (Blk.new w #[.string k, .string v, .int .i64 at_, .slice a n cap] 25 w.heap.size rfl)
  have T0 := hide ((Touch.refl (fun b => b = rb) w).alloc (.cells #[.string k, .string v, .int .i64 at_, .slice a n cap] 25))
  have R0 := hide (hr.alloc (.cells #[.string k, .string v, .int .i64 at_, .slice a n cap] 25))
  have B0 := hide (hb0.alloc hb0.size (.cells #[.string k, .string v, .int .i64 at_, .slice a n cap] 25))
  have HK := hide (fun wx => keyOKb_any k wx hk)
  have HO := hide (okK_iff (k := k))
  have HNO := hide (fun h w' ht => LeafR.no (k := k) (v := v) (n := n) (room := room) (rb := rb) (w := w) (w' := w') h ht)
  have HT := hide ht
  have hrw := hr.1
  have hw0 := hb0.size
  clear hr ht hb0
  unfold maxLen at hv hn
  have r0 := (unhide R0).cell 0 rfl
  have rf := (unhide R0).fro 0
  have HPZ : Hid (∀ ok, ok = okK k → ok = true → v.size ≤ 60 → n = 0 → room ≠ 0 → okK k = true ∧ v.size ≤ 60 ∧ n = 0 ∧ room ≠ 0) := hide (fun ok h1 h2 h3 h4 h5 => ⟨h1 ▸ h2, h3, h4, h5⟩)
  have HOE : Hid (∃ ok, ok = okK k) := hide ⟨_, rfl⟩
  obtain ⟨ok, hok⟩ := unhide HOE
  have HOK := hide hok
  rw [← hok] at HK HO
  clear hok HOE
  go_enter Tryd.func77, Tryd.ntmps77
  go_wp2_with fail
  generalize w.alloc (.cells #[.string k, .string v, .int .i64 at_, .slice a n cap] 25) = w1 at *
  have x0 := (unhide X0).cell 0 rfl
  have x1 := (unhide X0).cell 1 rfl
  have x3 := (unhide X0).cell 3 rfl
  refine (unhide HK w1).mono ?_
  rintro e w9 ⟨rfl, hw9⟩
  subst w9
  cases ok
  · go_wp2_with fail
    go_ret
    exact unhide HNO (fun h => by have := (unhide HOK).trans h.1; cases this) _ (unhide T0)
  have hk24 := (unhide HO).1 rfl
  by_cases hv60 : 60 < v.size
  · have h1 : (60 : Int) < (v.size : Int) := by omega
    go_wp2_with fail
    go_ret
    exact unhide HNO (fun h => by omega) _ (unhide T0)
  by_cases hn0 : 0 < n
  · have h1 : (0 : Int) < (n : Int) := by omega
    go_wp2_with fail
    go_ret
    exact unhide HNO (fun h => by omega) _ (unhide T0)
  have hn1 : ¬ (0 : Int) < (n : Int) := by omega
  by_cases hr0 : room = 0
  · have HR0 := hide hr0
    have r1 : w1.cell? ⟨rb, 0, none⟩ = some (.int .i64 0) := by rw [r0, hr0]; rfl
    clear r0 hr0
    go_wp2_with fail
    go_ret
    exact unhide HNO (fun h => h.2.2.2 (unhide HR0)) _ (unhide T0)
  have hr1 : ((room : Int) == 0) = false := by rw [beq_eq_false_iff_ne]; omega
  have HRN := hide hr0
  clear hr0
  have R1 := hide ((unhide R0).set 0 (.int .i64 ((room : Int) - 1)) (by simp))
  have T1 := hide ((unhide T0).setCell ⟨rb, 0, none⟩ (.int .i64 ((room : Int) - 1)) (fun _ => rfl))
  have B1 := hide ((unhide B0).setCell (p := ⟨rb, 0, none⟩) hrb (.int .i64 ((room : Int) - 1)))
  have hxr : rb ≠ w.heap.size := by omega
  have X1 := hide ((unhide X0).other (C := rb) 0 (.int .i64 ((room : Int) - 1)) (by omega))
  have y0 := (unhide X1).cell 0 rfl
  have y1 := (unhide X1).cell 1 rfl
  go_wp2_with fail
  refine (newLeaf_any k v _ (by omega) ((unhide HT).below (unhide B1))).mono ?_
  rintro e w2 ⟨p, rfl, hp1, hp2, hp3⟩
  have RR := hide (And.intro (Nat.le_trans (unhide T1).size hp1) (And.intro hp2 (And.intro ((unhide R1).below hp3) ((unhide T1).trans (Touch.ofBelow hp3 (T := fun b => b = rb)) (fun _ _ h => h)))))
  clear hp1 hp2 hp3
  have HPP := hide (unhide HPZ true (unhide HOK) rfl (by omega) (by omega) (unhide HRN))
  go_wp2_with fail
  go_ret
  refine LeafR.yes (unhide HPP) (unhide RR).1 (unhide RR).2.1 ?_ (unhide RR).2.2.2
  have h9 := (unhide RR).2.2.1
  have e9 : (room : Int) - 1 = ((room - 1 : Nat) : Int) := by have := (unhide HPP).2.2.2; omega
  rw [e9] at h9
  exact h9
end Go.Proofs.YtnajpeaieeaflaaDoor.Sha
