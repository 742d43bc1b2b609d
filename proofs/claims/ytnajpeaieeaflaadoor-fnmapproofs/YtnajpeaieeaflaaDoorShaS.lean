/- impl.spreadBlock: the sixty-four words of a block. -/
import Derived.Test.YtnajpeaieeaflaaDoorShaR
namespace Go.Proofs.YtnajpeaieeaflaaDoor.Sha
open Go.ChangeShapes Go.WideShapes Go.ChangeAt Go.RowKit
set_option linter.unusedVariables false

theorem wrap_small (n : Int) (h0 : 0 ≤ n) (h1 : n < 1000000) : IntKind.i64.wrap n = n := by
  simp only [IntKind.wrap, IntKind.bits, IntKind.signed]
  simp; omega
theorem uadd (a b : Nat) : IntKind.u32.wrap ((a : Int) + (b : Int)) = ((add a b : Nat) : Int) := by
  simp only [IntKind.wrap, IntKind.bits, IntKind.signed]
  unfold add; simp
theorem zero64 (w : World) (t : TypeId) (b : Nat) (hb : b = w.heap.size) : Row32 (w.alloc (Obj.cells #[Value.int IntKind.u32 0, Value.int IntKind.u32 0, Value.int IntKind.u32 0, Value.int IntKind.u32 0, Value.int IntKind.u32 0, Value.int IntKind.u32 0, Value.int IntKind.u32 0, Value.int IntKind.u32 0, Value.int IntKind.u32 0, Value.int IntKind.u32 0, Value.int IntKind.u32 0, Value.int IntKind.u32 0, Value.int IntKind.u32 0, Value.int IntKind.u32 0, Value.int IntKind.u32 0, Value.int IntKind.u32 0, Value.int IntKind.u32 0, Value.int IntKind.u32 0, Value.int IntKind.u32 0, Value.int IntKind.u32 0, Value.int IntKind.u32 0, Value.int IntKind.u32 0, Value.int IntKind.u32 0, Value.int IntKind.u32 0, Value.int IntKind.u32 0, Value.int IntKind.u32 0, Value.int IntKind.u32 0, Value.int IntKind.u32 0, Value.int IntKind.u32 0, Value.int IntKind.u32 0, Value.int IntKind.u32 0, Value.int IntKind.u32 0, Value.int IntKind.u32 0, Value.int IntKind.u32 0, Value.int IntKind.u32 0, Value.int IntKind.u32 0, Value.int IntKind.u32 0, Value.int IntKind.u32 0, Value.int IntKind.u32 0, Value.int IntKind.u32 0, Value.int IntKind.u32 0, Value.int IntKind.u32 0, Value.int IntKind.u32 0, Value.int IntKind.u32 0, Value.int IntKind.u32 0, Value.int IntKind.u32 0, Value.int IntKind.u32 0, Value.int IntKind.u32 0, Value.int IntKind.u32 0, Value.int IntKind.u32 0, Value.int IntKind.u32 0, Value.int IntKind.u32 0, Value.int IntKind.u32 0, Value.int IntKind.u32 0, Value.int IntKind.u32 0, Value.int IntKind.u32 0, Value.int IntKind.u32 0, Value.int IntKind.u32 0, Value.int IntKind.u32 0, Value.int IntKind.u32 0, Value.int IntKind.u32 0, Value.int IntKind.u32 0, Value.int IntKind.u32 0, Value.int IntKind.u32 0] t)) b 64 (fun _ => 0) := by
  subst hb
  intro j hj
  refine ⟨?_, by simp⟩
  rw [World.cell?_alloc_at _ _ _ _ rfl]
  have : ∀ j : Fin 64, (#[Value.int IntKind.u32 0, Value.int IntKind.u32 0, Value.int IntKind.u32 0, Value.int IntKind.u32 0, Value.int IntKind.u32 0, Value.int IntKind.u32 0, Value.int IntKind.u32 0, Value.int IntKind.u32 0, Value.int IntKind.u32 0, Value.int IntKind.u32 0, Value.int IntKind.u32 0, Value.int IntKind.u32 0, Value.int IntKind.u32 0, Value.int IntKind.u32 0, Value.int IntKind.u32 0, Value.int IntKind.u32 0, Value.int IntKind.u32 0, Value.int IntKind.u32 0, Value.int IntKind.u32 0, Value.int IntKind.u32 0, Value.int IntKind.u32 0, Value.int IntKind.u32 0, Value.int IntKind.u32 0, Value.int IntKind.u32 0, Value.int IntKind.u32 0, Value.int IntKind.u32 0, Value.int IntKind.u32 0, Value.int IntKind.u32 0, Value.int IntKind.u32 0, Value.int IntKind.u32 0, Value.int IntKind.u32 0, Value.int IntKind.u32 0, Value.int IntKind.u32 0, Value.int IntKind.u32 0, Value.int IntKind.u32 0, Value.int IntKind.u32 0, Value.int IntKind.u32 0, Value.int IntKind.u32 0, Value.int IntKind.u32 0, Value.int IntKind.u32 0, Value.int IntKind.u32 0, Value.int IntKind.u32 0, Value.int IntKind.u32 0, Value.int IntKind.u32 0, Value.int IntKind.u32 0, Value.int IntKind.u32 0, Value.int IntKind.u32 0, Value.int IntKind.u32 0, Value.int IntKind.u32 0, Value.int IntKind.u32 0, Value.int IntKind.u32 0, Value.int IntKind.u32 0, Value.int IntKind.u32 0, Value.int IntKind.u32 0, Value.int IntKind.u32 0, Value.int IntKind.u32 0, Value.int IntKind.u32 0, Value.int IntKind.u32 0, Value.int IntKind.u32 0, Value.int IntKind.u32 0, Value.int IntKind.u32 0, Value.int IntKind.u32 0, Value.int IntKind.u32 0, Value.int IntKind.u32 0] : Array Value)[j.val]? = some (Value.int IntKind.u32 0) := by
    intro j
    rcases j with ⟨j, hj⟩
    simp only [List.getElem?_toArray]
    repeat (rcases j with _ | j; · rfl)
    omega
  exact this ⟨j, hj⟩
theorem Row32.alloc {w : World} {b n : Nat} {f : Nat → Nat} (h : Row32 w b n f) (hb : b < w.heap.size) (c : Array Value) (t : TypeId) : Row32 (w.alloc (.cells c t)) b n f := fun j hj => by
  rw [World.cell?_alloc_lt _ _ _ hb]
  exact ⟨(h j hj).1, by rw [World.frozen?_alloc_past _ _ _ hb]; exact (h j hj).2⟩

set_option maxRecDepth 100000 in
set_option maxHeartbeats 2000000 in
theorem spread_any (b off cap : Nat) (B : Nat → Int) (w : World) (hblk : b < w.heap.size) (hB0 : ∀ i, 0 ≤ B i) (hB1 : ∀ i, B i ≤ 255)
    (hc : ∀ i, i < 64 → w.cell? ⟨b, off + i, none⟩ = some (.int .u8 (B i))) :
    Calls Tryd.prog 56 #[.slice (some ⟨b, off, none⟩) 64 cap] w fun e w' => e = .returned (.agg (cells32 64 (W B)).toArray) ∧ Below w.heap.size w w' := by
  have HC := hide hc
  have H0 := hide hB0
  have H1 := hide hB1
  clear hc hB0 hB1
  go_enter Tryd.func56, Tryd.ntmps56
  go_wp2_with fail
  go_loopw [4, 6] (fun _ i wr => ∃ k : Nat, k ≤ 16 ∧ i = .int .i64 k ∧ Row32 wr (w.heap.size + 1) 64 (upTo k (W B)) ∧ Row32 wr w.heap.size 64 (fun _ => 0) ∧ Below w.heap.size w wr)
    (fun _ i _ => 16 - (intOf i).toNat)
  case atStart =>
    refine ⟨0, Nat.zero_le _, rfl, (zero64 _ _ _ (by simp)).congr (fun j _ => rfl), (zero64 w _ _ rfl).alloc (by simp) _ _, ((Below.refl _ _).alloc (Nat.le_refl _) _).alloc (by simp) _⟩
  case round =>
    obtain ⟨k, hk, rfl, hG, hR, hbel⟩ := hrel
    by_cases hlt : k < 16
    · have hcl : ∀ i, i < 64 → wr.cell? ⟨b, off + i, none⟩ = some (.int .u8 (B i)) := fun i hi => (hbel.cell (p := ⟨b, off + i, none⟩) hblk).trans (unhide HC i hi)
      have e0 := hide (hcl (4 * k) (by omega))
      have e1 := hide (hcl (4 * k + 1) (by omega))
      have e2 := hide (hcl (4 * k + 2) (by omega))
      have e3 := hide (hcl (4 * k + 3) (by omega))
      have hgk := (hG k (by omega)).1
      have hgf := (hG k (by omega)).2
      have HG := hide hG
      have HR := hide hR
      have HB := hide hbel
      have HW := hide (W_lo B hlt)
      have hk0 : (0 : Int) ≤ (k : Int) := by omega
      have hk1 : (k : Int) < 64 := by omega
      clear hG hR hbel hcl
      go_wp2_with fail
      rw [show (4 : Int) * (k : Int) = ((4 * k : Nat) : Int) by omega]
      refine (wordAt_any b off 64 cap (4 * k) _ _ _ _ wr (by omega) (by omega) (unhide e0) (unhide e1) (unhide e2) (unhide e3) (unhide H0 _) (unhide H1 _) (unhide H0 _) (unhide H1 _) (unhide H0 _) (unhide H1 _) (unhide H0 _) (unhide H1 _)).mono ?_
      rintro e w1 ⟨rfl, q, rfl⟩
      rw [← unhide HW]
      clear HW e0 e1 e2 e3
      go_wp2_with fail
      refine ⟨⟨k + 1, by omega, by go_num, ((unhide HG).drewN q).step, ((unhide HR).drewN q).other (by simp) _, (below_drewN (unhide HB) q).setCell (by simp) _⟩, ?_⟩
      simp [intOf]; omega
    · obtain rfl : k = 16 := by omega
      go_wp2_with fail
      go_loopw [5] (fun i wr => ∃ k : Nat, k ≤ 48 ∧ i = .int .i64 ((k : Int) + 16) ∧ Row32 wr (w.heap.size + 1) 64 (upTo (k + 16) (W B)) ∧ Row32 wr w.heap.size 64 (fun _ => 0) ∧ Below w.heap.size w wr)
        (fun i _ => 64 - (intOf i).toNat)
      case atStart => exact ⟨0, Nat.zero_le _, rfl, hG, hR, hbel⟩
      case round =>
        clear hG hR hbel
        obtain ⟨k, hk, rfl, hG, hR, hbel⟩ := hrel
        by_cases hlt : k < 48
        · have e1 := (hG k (by omega)).1
          have e2 := (hG (k + 1) (by omega)).1
          have e3 := (hG (k + 9) (by omega)).1
          have e4 := (hG (k + 14) (by omega)).1
          rw [upTo_in _ (by omega)] at e1 e2 e3 e4
          have hgk := (hG (k + 16) (by omega)).1
          have hgf := (hG (k + 16) (by omega)).2
          have HG := hide hG
          have HR := hide hR
          have HB := hide hbel
          have HW : Hid (W B (k + 16) = add (add (add (W B k) (s0 (W B (k + 1)))) (W B (k + 9))) (s1 (W B (k + 14)))) := by
            have h := W_hi B (i := k + 16) (by omega)
            rw [show k + 16 - 16 = k by omega, show k + 16 - 15 = k + 1 by omega, show k + 16 - 7 = k + 9 by omega, show k + 16 - 2 = k + 14 by omega] at h
            exact h
          have l1 := W_lt B (unhide H1) k
          have l2 := W_lt B (unhide H1) (k + 1)
          have l3 := W_lt B (unhide H1) (k + 9)
          have l4 := W_lt B (unhide H1) (k + 14)
          have hk0 : (0 : Int) ≤ (k : Int) := by omega
          have hk1 : (k : Int) + 16 < 64 := by omega
          have t3 : ((k : Int) + 9).toNat = k + 9 := by omega
          have t4 : ((k : Int) + 14).toNat = k + 14 := by omega
          have t5 : ((k : Int) + 16).toNat = k + 16 := by omega
          have p1 := uadd (W B k) (s0 (W B (k + 1)))
          have p2 := uadd (add (W B k) (s0 (W B (k + 1)))) (W B (k + 9))
          have p3 := uadd (add (add (W B k) (s0 (W B (k + 1)))) (W B (k + 9))) (s1 (W B (k + 14)))
          have k1 : (k : Int) < 64 := by omega
          have n2 : (0 : Int) ≤ (k : Int) + 1 := by omega
          have n3 : (0 : Int) ≤ (k : Int) + 9 := by omega
          have n4 : (0 : Int) ≤ (k : Int) + 14 := by omega
          have n5 : (0 : Int) ≤ (k : Int) + 16 := by omega
          have k2 : (k : Int) + 1 < 64 := by omega
          have k3 : (k : Int) + 9 < 64 := by omega
          have k4 : (k : Int) + 14 < 64 := by omega
          have m1 : IntKind.i64.wrap (k : Int) = (k : Int) := wrap_small _ (by omega) (by omega)
          have m2 : IntKind.i64.wrap ((k : Int) + 16 - 15) = (k : Int) + 1 := by rw [show (k : Int) + 16 - 15 = (k : Int) + 1 by omega]; exact wrap_small _ (by omega) (by omega)
          have m3 : IntKind.i64.wrap ((k : Int) + 16 - 7) = (k : Int) + 9 := by rw [show (k : Int) + 16 - 7 = (k : Int) + 9 by omega]; exact wrap_small _ (by omega) (by omega)
          have m4 : IntKind.i64.wrap ((k : Int) + 16 - 2) = (k : Int) + 14 := by rw [show (k : Int) + 16 - 2 = (k : Int) + 14 by omega]; exact wrap_small _ (by omega) (by omega)
          clear hG hR hbel
          go_wp2_with fail
          refine wp_region_still_tail 23 (by kernel_rfl) (by kernel_rfl) ?_
          simp only [List.take_succ_cons, List.take_zero, List.drop_succ_cons, List.drop_zero]
          repeat (first | still_step | still_call (smallS_any _ _ l2) | still_call (smallT_any _ _ l4))
          refine wpStill_nil ?_
          go_wp2_with fail
          have hst := (unhide HG).step
          rw [unhide HW] at hst
          refine ⟨?_, ?_⟩
          · repeat (apply Exists.intro)
            refine ⟨?_, rfl⟩
            exact ⟨k + 1, by omega, by go_num, by rw [show k + 1 + 16 = k + 16 + 1 by omega]; exact hst, (unhide HR).other (a := ⟨w.heap.size + 1, k + 16, none⟩) (by simp) _, (unhide HB).drew.setCell (by simp) _⟩
          · simp [intOf]; omega
        · obtain rfl : k = 48 := by omega
          have HB := hide hbel
          have hu := Tryd.underlying88
          have hr := (hG.congr (g := W B) fun j hj => upTo_in _ (by omega)).range
          have ht : wr.there w.heap.size 0 (cells32 64 (W B)).toArray.size := by
            rw [show (cells32 64 (W B)).toArray.size = 64 by simp [cells32_len]]; exact hR.there
          have hst := hide (hR.stored (g := W B))
          have hi1 : (Tryd.prog.info? 88).map (·.size) = some (cells32 64 (W B)).length := by rw [cells32_len]; kernel_rfl
          have hi2 : (Tryd.prog.info? 88).map (·.size) = some (cells32 64 (W B)).toArray.size := by rw [show (cells32 64 (W B)).toArray.size = 64 by simp [cells32_len]]; kernel_rfl
          go_wp2_with (first | (refine wpList_load_mid rfl 88 _ rfl (w.heap.size + 1) 0 rfl _ _ hr hu rfl hi1 ?_) | (refine wpList_store_mid rfl 88 _ _ rfl w.heap.size 0 _ rfl rfl (by exact ht) hi2 (all_oneCell_toArray (cells32_one _ _)) ?_))
          refine bodyPost_ret (v := .agg (cells32 64 (W B)).toArray) (results_cell (p := 2) (ty := 88) (a := ⟨w.heap.size, 0, none⟩) (by kernel_rfl) rfl (run_loadVar_mid _ _ 0 88 _ _ (unhide hst).range hu rfl hi1)) rfl ⟨rfl, ?_⟩
          exact below_setCells (Nat.le_refl _) _ _ (unhide HB)
end Go.Proofs.YtnajpeaieeaflaaDoor.Sha
