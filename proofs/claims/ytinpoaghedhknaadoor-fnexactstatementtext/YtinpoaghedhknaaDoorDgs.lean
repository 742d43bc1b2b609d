/- spec.l00Digits of a number below 100. -/
import Derived.Test.YtinpoaghedhknaaDoorSml
import Derived.Test.YtinpoaghedhknaaDoorBlk
import Derived.Test.YtinpoaghedhknaaDoorTk
namespace Go.Proofs.YtinpoaghedhknaaDoor
open Go.ChangeShapes Go.WideShapes Go.ChangeAt Go.RowKit
set_option linter.unusedVariables false
set_option linter.unusedSimpArgs false

theorem conv_at (x : Int) (W : World) (g : Nat) (hc : W.cell? ⟨g, 0, none⟩ = some (.int .u8 x)) : (convert 80 9 (.slice (some ⟨g, 0, none⟩) 1 1)).run Tryd.prog W = .ok (.string (strOfNums [x])) W :=
  run_convert_bytes_arg (P := Tryd.prog) W 80 5 Tryd.underlying80 Tryd.underlying5 g 0 1 1 [x] rfl (fun i hi => by
    match i, hi with
    | 0, _ => exact hc) 9 Tryd.underlying9
theorem dig_one : ∀ n : Fin 10, strOfNums [48 + (n.val : Int)] = digT n.val := by decide +kernel
theorem dig_two : ∀ n : Fin 100, 10 ≤ n.val → digT (n.val / 10) ++ strOfNums [48 + (n.val : Int) % 10] = digT n.val := by decide +kernel
theorem dig_size : ∀ n : Fin 100, (digT n.val).size ≤ 2 := by decide +kernel
set_option maxRecDepth 100000 in
set_option maxHeartbeats 1000000 in
theorem l00Digits_one (n : Nat) (hn : n < 10) (w : World) :
    Calls Tryd.prog 53 #[.int .i64 n] w fun e w' => e = .returned (.string (digT n)) ∧ Below w.heap.size w w' := by
  have HD := hide (dig_one ⟨n, hn⟩)
  dsimp only at HD
  have B0 := hide ((Below.refl w.heap.size w).alloc (Nat.le_refl _) (.cells #[.int .u8 (48 + (n : Int))] 5))
  have X0 := hide (Blk.new w #[.int .u8 (48 + (n : Int))] 5 w.heap.size rfl)
  have hcv := conv_at (48 + (n : Int)) (w.alloc (.cells #[.int .u8 (48 + (n : Int))] 5)) w.heap.size ((unhide X0).cell 0 rfl)
  have w1 : IntKind.i64.wrap (48 + (n : Int)) = 48 + (n : Int) := by simp only [IntKind.wrap, IntKind.bits, IntKind.signed]; simp; omega
  have w2 : IntKind.u8.wrap (48 + (n : Int)) = 48 + (n : Int) := by simp only [IntKind.wrap, IntKind.bits, IntKind.signed]; simp; omega
  have h0 : ¬ (n : Int) < 0 := by omega
  have h1 : (n : Int) < 10 := by omega
  have h2 : ((n : Int) == -9223372036854775808) = false := by rw [beq_eq_false_iff_ne]; omega
  go_enter Tryd.func53, Tryd.ntmps53
  go_wp2_with fail
  go_ret
  exact ⟨by rw [unhide HD]; rfl, unhide B0⟩
set_option maxRecDepth 100000 in
set_option maxHeartbeats 2000000 in
theorem l00Digits_any (n : Nat) (hn : n < 100) (w : World) :
    Calls Tryd.prog 53 #[.int .i64 n] w fun e w' => e = .returned (.string (digT n)) ∧ Below w.heap.size w w' := by
  by_cases h10 : n < 10
  · exact l00Digits_one n h10 w
  · have HD := hide (dig_two ⟨n, hn⟩ (by dsimp only; omega))
    dsimp only at HD
    have HC := hide (fun wx => l00Digits_one (n / 10) (by omega) wx)
    have hz1 : (digT (n / 10)).size ≤ 2 := dig_size ⟨n / 10, by omega⟩
    obtain ⟨q, hqq⟩ : ∃ q : Nat, q = n / 10 := ⟨_, rfl⟩
    have hq : (n : Int).tdiv 10 = (q : Int) := by rw [Int.tdiv_eq_ediv_of_nonneg (by omega)]; omega
    have hq2 : (n : Int) / 10 = (q : Int) := by omega
    rw [← hqq] at HD HC hz1
    have hr : (n : Int).tmod 10 = (n : Int) % 10 := by rw [Int.tmod_eq_emod_of_nonneg (by omega)]
    have w0 : IntKind.i64.wrap (q : Int) = (q : Int) := by simp only [IntKind.wrap, IntKind.bits, IntKind.signed]; simp; omega
    have w1 : IntKind.i64.wrap (48 + (n : Int) % 10) = 48 + (n : Int) % 10 := by simp only [IntKind.wrap, IntKind.bits, IntKind.signed]; simp; omega
    have w2 : IntKind.u8.wrap (48 + (n : Int) % 10) = 48 + (n : Int) % 10 := by simp only [IntKind.wrap, IntKind.bits, IntKind.signed]; simp; omega
    have w3 : IntKind.i64.wrap ((n : Int) % 10) = (n : Int) % 10 := by simp only [IntKind.wrap, IntKind.bits, IntKind.signed]; simp; omega
    have h0 : ¬ (n : Int) < 0 := by omega
    have h1 : ¬ (n : Int) < 10 := by omega
    have h2 : ((n : Int) == -9223372036854775808) = false := by rw [beq_eq_false_iff_ne]; omega
    obtain ⟨x, hx⟩ : ∃ x : Int, x = 48 + (n : Int) % 10 := ⟨_, rfl⟩
    rw [← hx] at HD w1 w2
    have hx3 : 48 + (n : Int) % 10 = x := hx.symm
    clear hx
    have hs1 : (strOfNums [x]).size = 1 := by simp [strOfNums, ByteArray.size]
    clear hqq
    generalize digT q = s at *
    have hlim : ¬ (9223372036854775807 < s.size + 1) := by omega
    generalize digT n = t at *
    go_enter Tryd.func53, Tryd.ntmps53
    go_wp2_with fail
    refine wp_region_noPanic ?_
    refine wp_region_held_drew (S := (fun _ => True)) (by kernel_rfl) ?_ (fun hHeld => ?_)
    · trivial
    refine tkH 0 rfl ?_
    refine tkH 1 rfl ?_
    refine tkH 3 rfl ?_
    refine tkH 4 rfl ?_
    refine tkH 5 rfl ?_
    refine tkH 6 rfl ?_
    have HBq := hide (below_drewN (Below.refl w.heap.size w) 1)
    obtain ⟨wq, hwq⟩ : ∃ wq, wq = w.drew := ⟨_, rfl⟩
    change Hid (Below w.heap.size w w.drew) at HBq
    rw [← hwq] at HBq ⊢
    clear hwq
    refine wpAnyH_ready (rs := [2, 7]) (by kernel_rfl) (by simp) ?_
    refine AllReadyH.cons (o := _) rfl (fun K hK => ?_) (AllReadyH.cons (o := _) rfl (fun K hK => ?_) AllReadyH.nil)
    · skip
      go_simp
      refine (unhide HC wq).mono ?_
      rintro e v1 ⟨rfl, hb⟩
      have HBv1 := hide ((unhide HBq).trans (hb.mono (unhide HBq).size))
      clear hb
      go_wp2_with fail
      refine hK.out _ _ ?_ (fun hHeld => ?_)
      · trivial
      clear hK K
      (try simp only [Act.put, List.getElem_toArray, List.getElem_cons_succ, List.getElem_cons_zero, List.setIfInBounds_toArray, List.set_cons_zero, List.set_cons_succ])
      refine wpAnyH_ready (rs := [7]) (by kernel_rfl) (by simp) ?_
      refine AllReadyH.cons (o := _) rfl (fun K hK => ?_) AllReadyH.nil
      have HBv2 := hide ((unhide HBv1).alloc (unhide HBv1).size (.cells #[.int .u8 x] 5))
      have HXv2 := hide (Blk.new v1 #[.int .u8 x] 5 v1.heap.size rfl)
      go_simp
      refine hK.out _ _ ?_ (fun hHeld => ?_)
      · trivial
      clear hK K
      (try simp only [Act.put, List.getElem_toArray, List.getElem_cons_succ, List.getElem_cons_zero, List.setIfInBounds_toArray, List.set_cons_zero, List.set_cons_succ])
      generalize v1.alloc (.cells #[.int .u8 x] 5) = v2 at *
      generalize hgb : v1.heap.size = gv2 at *
      clear hgb
      refine wpAnyH_ready (rs := [8]) (by kernel_rfl) (by simp) ?_
      refine AllReadyH.cons (o := _) rfl (fun K hK => ?_) AllReadyH.nil
      have hcv := conv_at x v2 gv2 ((unhide HXv2).cell 0 rfl)
      go_simp
      refine hK.out _ _ ?_ (fun hHeld => ?_)
      · trivial
      clear hK K hcv
      (try simp only [Act.put, List.getElem_toArray, List.getElem_cons_succ, List.getElem_cons_zero, List.setIfInBounds_toArray, List.set_cons_zero, List.set_cons_succ])
      refine tkH 9 rfl ?_
      refine tkH 10 rfl ?_
      refine wpAnyH_done (by kernel_rfl) (NoPanic.normal ?_) _
      go_wp2_with fail
      go_ret
      exact ⟨by have h := unhide HD; subst h; rfl, unhide HBv2⟩
    · skip
      have HBv4 := hide ((unhide HBq).alloc (unhide HBq).size (.cells #[.int .u8 x] 5))
      have HXv4 := hide (Blk.new wq #[.int .u8 x] 5 wq.heap.size rfl)
      go_simp
      refine hK.out _ _ ?_ (fun hHeld => ?_)
      · trivial
      clear hK K
      (try simp only [Act.put, List.getElem_toArray, List.getElem_cons_succ, List.getElem_cons_zero, List.setIfInBounds_toArray, List.set_cons_zero, List.set_cons_succ])
      generalize wq.alloc (.cells #[.int .u8 x] 5) = v4 at *
      generalize hgb : wq.heap.size = gv4 at *
      clear hgb
      refine wpAnyH_ready (rs := [2, 8]) (by kernel_rfl) (by simp) ?_
      refine AllReadyH.cons (o := _) rfl (fun K hK => ?_) (AllReadyH.cons (o := _) rfl (fun K hK => ?_) AllReadyH.nil)
      · skip
        go_simp
        refine (unhide HC v4).mono ?_
        rintro e v5 ⟨rfl, hb⟩
        have HBv5 := hide ((unhide HBv4).trans (hb.mono (unhide HBv4).size))
        have HXv5 := hide ((unhide HXv4).below hb)
        clear hb
        go_wp2_with fail
        refine hK.out _ _ ?_ (fun hHeld => ?_)
        · trivial
        clear hK K
        (try simp only [Act.put, List.getElem_toArray, List.getElem_cons_succ, List.getElem_cons_zero, List.setIfInBounds_toArray, List.set_cons_zero, List.set_cons_succ])
        refine wpAnyH_ready (rs := [8]) (by kernel_rfl) (by simp) ?_
        refine AllReadyH.cons (o := _) rfl (fun K hK => ?_) AllReadyH.nil
        have hcv := conv_at x v5 gv4 ((unhide HXv5).cell 0 rfl)
        go_simp
        refine hK.out _ _ ?_ (fun hHeld => ?_)
        · trivial
        clear hK K hcv
        (try simp only [Act.put, List.getElem_toArray, List.getElem_cons_succ, List.getElem_cons_zero, List.setIfInBounds_toArray, List.set_cons_zero, List.set_cons_succ])
        refine tkH 9 rfl ?_
        refine tkH 10 rfl ?_
        refine wpAnyH_done (by kernel_rfl) (NoPanic.normal ?_) _
        go_wp2_with fail
        go_ret
        exact ⟨by have h := unhide HD; subst h; rfl, unhide HBv5⟩
      · skip
        have hcv := conv_at x v4 gv4 ((unhide HXv4).cell 0 rfl)
        go_simp
        refine hK.out _ _ ?_ (fun hHeld => ?_)
        · trivial
        clear hK K hcv
        (try simp only [Act.put, List.getElem_toArray, List.getElem_cons_succ, List.getElem_cons_zero, List.setIfInBounds_toArray, List.set_cons_zero, List.set_cons_succ])
        refine wpAnyH_ready (rs := [2]) (by kernel_rfl) (by simp) ?_
        refine AllReadyH.cons (o := _) rfl (fun K hK => ?_) AllReadyH.nil
        go_simp
        refine (unhide HC v4).mono ?_
        rintro e v8 ⟨rfl, hb⟩
        have HBv8 := hide ((unhide HBv4).trans (hb.mono (unhide HBv4).size))
        clear hb
        go_wp2_with fail
        refine hK.out _ _ ?_ (fun hHeld => ?_)
        · trivial
        clear hK K
        (try simp only [Act.put, List.getElem_toArray, List.getElem_cons_succ, List.getElem_cons_zero, List.setIfInBounds_toArray, List.set_cons_zero, List.set_cons_succ])
        refine tkH 9 rfl ?_
        refine tkH 10 rfl ?_
        refine wpAnyH_done (by kernel_rfl) (NoPanic.normal ?_) _
        go_wp2_with fail
        go_ret
        exact ⟨by have h := unhide HD; subst h; rfl, unhide HBv8⟩
end Go.Proofs.YtinpoaghedhknaaDoor
