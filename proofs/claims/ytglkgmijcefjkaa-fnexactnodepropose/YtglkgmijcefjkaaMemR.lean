/- impl.ReadMembers, walked. -/
import Derived.Test.YtglkgmijcefjkaaLaidI
import Derived.Test.YtglkgmijcefjkaaMem
namespace Go.Proofs.Ytglkgmijcefjkaa
open Go.ChangeShapes Go.WideShapes Go.ChangeAt Go.RowKit
set_option linter.unusedVariables false

/-- What ReadMembers answers. -/
def memRead (s : ByteArray) : List Int × Int := if 65536 < s.size then ([], 2) else if mFault (bytesI s) = 0 then (bytesI s, 0) else ([], 3)
theorem memOut_fault (s : ByteArray) : (memOut s).2 = decide (mFault (bytesI s) = 0) ∧ ((memOut s).2 = true → (memOut s).1 = bytesI s) := by
  unfold memOut mFault
  by_cases h1 : InAll (bytesI s)
  · by_cases h2 : Rising (bytesI s)
    · rw [if_pos ⟨h1, h2⟩, if_pos h1]
      by_cases h3 : s.size = 0
      · rw [if_pos (by rw [bytesI_len]; exact h3)]; simp [h3]
      · rw [if_neg (by rw [bytesI_len]; exact h3), if_pos h2]; simp; omega
    · rw [if_neg (fun h => h2 h.2), if_pos h1]
      by_cases h3 : (bytesI s).length = 0
      · rw [if_pos h3]; simp
      · rw [if_neg h3, if_neg h2]; simp
  · rw [if_neg (fun h => h1 h.1), if_neg h1]; simp

def copiedI (s : ByteArray) (k j : Nat) : Int := if j < k then bAt s j else 0
set_option maxRecDepth 100000 in
set_option maxHeartbeats 1000000 in
theorem implReadMembers_any (s : ByteArray) (w : World) (hs : s.size ≤ maxLen) :
    Calls Try.prog 80 #[.string s] w fun e w' => ∃ v', e = .returned (.tuple #[v', .int .i64 (memRead s).2]) ∧ OwnI w.heap.size w' v' (memRead s).1 ∧ Below w.heap.size w w' := by
  unfold maxLen at hs
  obtain ⟨i0, hi, hz0, hz1, hz2⟩ := info_parts info3
  by_cases hl : 65536 < s.size
  · have E := hide (show memRead s = ([], 2) by simp [memRead, hl])
    go_enter Try.func80, Try.ntmps80
    go_wp2_with fail
    go_ret2
    exact ⟨.slice none 0 0, ret_two (by rw [unhide E]), by rw [unhide E]; exact World.ownsRow_nil _ _ _ _, Below.refl _ _⟩
  · go_enter Try.func80, Try.ntmps80
    go_wp2_with (at_make; refine wpList_make_full _ rfl _ _ 23 rfl w.heap.size 3 i0 _ 1 Try.underlying23 hi hz0 hz1 .i64 .i64 _ _ s.size rfl rfl rfl rfl (by rw [hz2]; omega) (by unfold maxLen; omega) (Nat.le_refl _) ?_; intro w1 hown1 hg1)
    have hz : LaidI w1 w.heap.size s.size (copiedI s 0) s.size := by
      obtain ⟨hl1, hc1⟩ := hown1
      rcases hc1 with ⟨hv, _⟩ | ⟨g', cap', cur, hv, hb, hg, hn, hm, hs1, ht⟩
      · cases hv
      · cases hv
        refine ⟨cur, hg, by simpa using hs1, hn, fun j hj => ?_⟩
        have e := congrArg (fun z : List Value => z[j]?) ht
        have e3 : (Value.int IntKind.i64 0).cells = #[Value.int IntKind.i64 0] := rfl
        rw [e3, Nat.mul_one, toList_madeCells_one] at e
        simp only [List.getElem?_take, if_pos hj, Array.getElem?_toList] at e
        rw [e]; simp [hj, copiedI]
    have HZ := hide (And.intro hz ((Below.refl w.heap.size w).grown hg1 (Nat.le_refl _) (fun k h => by cases h)))
    clear hown1 hg1 hz
    go_loopw [5, 14] (fun _ i wr => ∃ k : Nat, k ≤ s.size ∧ i = .int .i64 k ∧ LaidI wr w.heap.size s.size (copiedI s k) s.size ∧ Below w.heap.size w wr) (fun _ i _ => s.size - (intOf i).toNat)
    case atStart => exact ⟨0, Nat.zero_le _, rfl, (unhide HZ).1, (unhide HZ).2⟩
    case round =>
      obtain ⟨k, hk, rfl, hL, hbel⟩ := hrel
      by_cases hlt : k < s.size
      · have e1 := bAt_eq s k hlt
        have hb0 := bAt_lo s k
        have hb1 := bAt_hi s k
        have hk0 : (0 : Int) ≤ (k : Int) := by omega
        have hk1 : (k : Int) < (s.size : Int) := by omega
        have m0 : IntKind.i64.wrap (bAt s k) = bAt s k := by simp only [IntKind.wrap, IntKind.bits, IntKind.signed]; simp; omega
        obtain ⟨d1, d2⟩ := hL.cell k hlt
        have R := hide (And.intro (hL.set (f' := copiedI s (k + 1)) k (bAt s k) hlt (by unfold copiedI; rw [if_pos (by omega)]) (fun j hj => by
          unfold copiedI
          by_cases h1 : j < k
          · rw [if_pos h1, if_pos (by omega)]
          · rw [if_neg h1, if_neg (by omega)])) (hbel.setCell (p := ⟨w.heap.size, k, none⟩) (Nat.le_refl _) (.int .i64 (bAt s k))))
        clear hL hbel
        generalize bAt s k = x at *
        go_wp2_with fail
        refine ⟨⟨k + 1, by omega, by go_num, (unhide R).1, (unhide R).2⟩, ?_⟩
        simp [intOf]; omega
      · obtain rfl : k = s.size := by omega
        have hbl := bytesI_len s
        have hO : OwnI w.heap.size wr (.slice (some ⟨w.heap.size, 0, none⟩) s.size s.size) (bytesI s) := by
          have h1 := LaidI.own (B := w.heap.size) (l := bytesI s) (f := copiedI s s.size) (cap := s.size) (w := wr) (g := w.heap.size) (by rw [hbl]; exact hL) (fun j hj => by rw [hbl] at hj; unfold copiedI; rw [if_pos hj, bytesI_bAt]) (Nat.le_refl _) (by unfold maxLen; omega)
          rw [hbl] at h1; exact h1
        have HI := hide hO.ints
        have R := hide (And.intro hO hbel)
        have HBL := hide hbl
        clear hL hbel hO hbl
        go_wp2_with fail
        refine (membersFault_any _ (bytesI s) _ (unhide HI) (by rw [unhide HBL]; omega)).mono ?_
        rintro e w2 ⟨rfl, n, rfl⟩
        by_cases hf : mFault (bytesI s) = 0
        · have E := hide (show memRead s = (bytesI s, 0) by simp [memRead, hl, hf])
          rw [hf]
          clear hf
          go_wp2_with fail
          go_ret2
          exact ⟨_, ret_two (by rw [unhide E]), by rw [unhide E]; exact (unhide R).1.drewN n, below_drewN (unhide R).2 n⟩
        · have E := hide (show memRead s = ([], 3) by simp [memRead, hl, hf])
          have hne : (mFault (bytesI s) != 0) = true := by rw [bne_iff_ne]; exact hf
          generalize mFault (bytesI s) = x at *
          go_wp2_with fail
          go_ret2
          exact ⟨.slice none 0 0, ret_two (by rw [unhide E]), by rw [unhide E]; exact World.ownsRow_nil _ _ _ _, below_drewN (unhide R).2 n⟩
end Go.Proofs.Ytglkgmijcefjkaa
