/- spec.l10Most, walked. -/
import Derived.Test.YtljolldacpkeeaaBt1
import Derived.Deep.DeepCutAuto
namespace Go.Proofs.Ytljolldacpkeeaa
open Go.ChangeShapes Go.WideShapes Go.ChangeAt Go.RowKit Go.Deep
set_option linter.unusedVariables false
set_option linter.unusedSimpArgs false

/-- How many of the first k have something. -/
def cntTo (has : Int → Bool) (l : List Int) (k : Nat) : Nat := ((l.take k).filter has).length
def mostB (has : Int → Bool) (l : List Int) : Bool := decide (l.length < 2 * cntTo has l l.length)
theorem cntTo_succ (has : Int → Bool) (l : List Int) (k : Nat) (h : k < l.length) : cntTo has l (k + 1) = cntTo has l k + (if has (l.getD k 0) then 1 else 0) := by
  unfold cntTo
  have e : l.getD k 0 = l[k] := by rw [List.getD_eq_getElem?_getD, List.getElem?_eq_getElem h]; rfl
  rw [List.take_succ_eq_append_getElem h, List.filter_append, List.length_append, e]
  cases hh : has l[k] <;> simp [hh]
theorem cntTo_le (has : Int → Bool) (l : List Int) (k : Nat) : cntTo has l k ≤ l.length := by
  unfold cntTo
  exact Nat.le_trans (List.length_filter_le _ _) (by rw [List.length_take]; omega)
set_option maxRecDepth 100000 in
set_option maxHeartbeats 2000000 in
theorem l10Most_any (u v : Value) (some_ all : List Int) (w : World) (h1 : Ints w u some_) (h2 : Ints w v all) (hs1 : some_.length ≤ 1000) (hs2 : all.length ≤ 1000) :
    Calls Try.prog 64 #[u, v] w fun e w' => e = .returned (.bool (mostB (fun x => decide (x ∈ some_)) all)) ∧ w' = w := by
  have HH := hide (fun x => l10Has_any u some_ x w h1 (by omega))
  obtain ⟨a1, c1, rfl⟩ := h1.shape
  obtain ⟨a, cap, rfl, hm, hc⟩ := h2
  have HC := hide hc
  clear hc hm h1
  have HS := hide (cntTo_succ (fun x => decide (x ∈ some_)) all)
  have HL := hide (cntTo_le (fun x => decide (x ∈ some_)) all)
  have HM : Hid (mostB (fun x => decide (x ∈ some_)) all = decide (all.length < 2 * cntTo (fun x => decide (x ∈ some_)) all all.length)) := hide rfl
  have H0 : Hid (cntTo (fun x => decide (x ∈ some_)) all 0 = 0) := hide (by simp [cntTo])
  generalize mostB (fun x => decide (x ∈ some_)) all = R at *
  generalize cntTo (fun x => decide (x ∈ some_)) all = C at *
  go_enter Try.func64, Try.ntmps64
  go_wp2_with fail
  go_loop [5, 6] (fun c i => ∃ (k x : Nat), k ≤ all.length ∧ i = .int .i64 (k : Int) ∧ c = .int .i64 (x : Int) ∧ Hid (x = C k)) (fun _ i => all.length - (intOf i).toNat)
  case atStart => exact ⟨0, 0, Nat.zero_le _, rfl, rfl, hide (unhide H0).symm⟩
  case round =>
    obtain ⟨k, x, hk, rfl, rfl, HX⟩ := hrel
    have hxl := unhide HL k
    rw [← unhide HX] at hxl
    by_cases hlt : k < all.length
    · obtain ⟨b, off, rfl, hbl, hsrc⟩ : ∃ b off, a = some ⟨b, off, none⟩ ∧ b < w.heap.size ∧ ∀ i, i < all.length → w.cell? ⟨b, off + i, none⟩ = some (.int .i64 (all.getD i 0)) := by
        rcases unhide HC with h0 | h1
        · omega
        · exact h1
      have c0 := hsrc k hlt
      have hk0 : (0 : Int) ≤ (k : Int) := by omega
      have hk1 : (k : Int) < (all.length : Int) := by omega
      have HSk := hide (unhide HS k hlt)
      rw [← unhide HX] at HSk
      clear hsrc
      generalize all.getD k 0 = t at *
      have HHt := hide (unhide HH t)
      generalize decide (t ∈ some_) = d at *
      have HBt := hide (l01Bit_any d w)
      obtain ⟨y, hy⟩ : ∃ y : Nat, y = x + (if d = true then 1 else 0) := ⟨_, rfl⟩
      have hy2 : (x : Int) + bitI d = (y : Int) := by rw [hy]; cases d <;> simp [bitI]
      have hyl : y ≤ 1001 := by rw [hy]; split <;> omega
      rw [← hy] at HSk
      have q1 : IntKind.i64.wrap (y : Int) = (y : Int) := by
        simp only [IntKind.wrap, IntKind.bits, IntKind.signed]
        simp
        omega
      have HY2 := hide hy2
      clear hy hy2
      go_wp2_with fail
      refine (unhide HHt).mono ?_
      rintro e w' ⟨rfl, hw⟩
      subst w'
      go_wp2_with fail
      refine (unhide HBt).mono ?_
      rintro e w' ⟨rfl, hw⟩
      subst w'
      have hy2 := unhide HY2
      go_wp2_with fail
      refine ⟨⟨k + 1, y, by omega, by go_num, rfl, hide (unhide HSk).symm⟩, ?_⟩
      simp [intOf]; omega
    · obtain rfl : k = all.length := by omega
      have E : Hid (R = decide (all.length < 2 * x)) := hide (by rw [unhide HM, unhide HX])
      have q1 : IntKind.i64.wrap (2 * (x : Int)) = 2 * (x : Int) := by
        simp only [IntKind.wrap, IntKind.bits, IntKind.signed]
        simp
        omega
      go_wp2_with fail
      all_goals
        go_ret
        exact ⟨ret_bool (by rw [unhide E]; first | rfl | (rw [Bool.eq_iff_iff]; simp only [decide_eq_true_eq]; omega)), rfl⟩
end Go.Proofs.Ytljolldacpkeeaa
