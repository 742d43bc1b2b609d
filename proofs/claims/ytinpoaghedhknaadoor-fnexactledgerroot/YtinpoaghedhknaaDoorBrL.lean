/- What the laws do with branches: sz, to, eq. -/
import Derived.Test.YtinpoaghedhknaaDoorBr
import Derived.Deep.RegionHeld3
namespace Go.Proofs.YtinpoaghedhknaaDoor.Sha
open Go.ChangeShapes Go.WideShapes Go.ChangeAt Go.RowKit
set_option linter.unusedVariables false

set_option maxRecDepth 100000 in
set_option maxHeartbeats 1000000 in
theorem szBranch_of (k v : ByteArray) (at_ : Int) (l : List Br) (a : Option Addr) (n cap : Nat) (left : Int) (w : World) (h0 : 0 ≤ left) (h1 : left ≤ 1048576) (hk : k.size ≤ maxLen) (hv : v.size ≤ maxLen)
    (HK : ∀ L wx, 0 ≤ L → L ≤ 1048576 → Below w.heap.size w wx → Calls Tryd.prog 32 #[.slice a n cap, .int .i64 L] wx fun e w' => e = .returned (.int .i64 (szB L (wtL l))) ∧ Below wx.heap.size wx w') :
    Calls Tryd.prog 15 #[.agg #[.string k, .string v, .int .i64 at_, .slice a n cap], .int .i64 left] w fun e w' => e = .returned (.int .i64 (szB left (Br.mk k v at_ l).wt)) ∧ Below w.heap.size w w' := by
  have hw : (Br.mk k v at_ l).wt = (k.size : Int) + (v.size : Int) + wtL l := Br.wt_eq _
  rw [hw]
  have hl0 := wtL_lo l
  clear hw
  have HKK := hide HK
  clear HK
  unfold maxLen at hk hv
  have B0 := hide ((Below.refl w.heap.size w).alloc (Nat.le_refl _) (.cells #[.string k, .string v, .int .i64 at_, .slice a n cap] 25))
  by_cases q1 : left - (k.size : Int) < 0
  · have E : Hid (szB left ((k.size : Int) + (v.size : Int) + wtL l) = -1) := hide (by unfold szB; rw [if_neg (by omega)])
    go_enter Tryd.func15, Tryd.ntmps15
    go_wp2_with fail
    go_ret
    exact ⟨ret_int (unhide E).symm, unhide B0⟩
  by_cases q2 : left - (k.size : Int) - (v.size : Int) < 0
  · have E : Hid (szB left ((k.size : Int) + (v.size : Int) + wtL l) = -1) := hide (by unfold szB; rw [if_neg (by omega)])
    go_enter Tryd.func15, Tryd.ntmps15
    go_wp2_with fail
    go_ret
    exact ⟨ret_int (unhide E).symm, unhide B0⟩
  have E : Hid (szB left ((k.size : Int) + (v.size : Int) + wtL l) = szB (left - (k.size : Int) - (v.size : Int)) (wtL l)) := hide (by unfold szB; split <;> split <;> omega)
  have HC := hide (szB_cases (left - (k.size : Int) - (v.size : Int)) (wtL l) hl0)
  have HKX := hide (fun wx => unhide HKK (left - (k.size : Int) - (v.size : Int)) wx (by omega) (by omega))
  clear hl0
  generalize szB (left - (k.size : Int) - (v.size : Int)) (wtL l) = r at *
  go_enter Tryd.func15, Tryd.ntmps15
  go_wp2_with fail
  refine (unhide HKX _ (unhide B0)).mono ?_
  rintro e w1 ⟨rfl, hb1⟩
  have B1 := hide ((unhide B0).trans (hb1.mono (unhide B0).size))
  clear hb1
  rcases unhide HC with hr | ⟨hr, _⟩
  · subst hr
    go_wp2_with fail
    go_ret
    exact ⟨ret_int (unhide E).symm, unhide B1⟩
  · have hr2 : ¬ r < 0 := by omega
    go_wp2_with fail
    go_ret
    exact ⟨ret_int (unhide E).symm, unhide B1⟩

set_option maxRecDepth 100000 in
set_option maxHeartbeats 2000000 in
theorem szBranchS_any {S : Nat → Prop} {w0 : World} {v : Value} {l : List Br} (h : Brs S w0 v l) : ∀ (L : Int) (w : World), 0 ≤ L → L ≤ 1048576 → Below w0.heap.size w0 w →
    Calls Tryd.prog 32 #[v, .int .i64 L] w fun e w' => e = .returned (.int .i64 (szB L (wtL l))) ∧ Below w.heap.size w w' := by
  induction h with
  | nil a cap hc =>
    intro L w hL0 hL1 hb0
    have E : Hid (szB L (wtL []) = L) := hide (by unfold szB wtL; rw [if_pos hL0]; omega)
    have hn : ¬ L < 0 := by omega
    clear hb0 hc
    go_enter Tryd.func32, Tryd.ntmps32
    go_wp2_with fail
    go_loopw [1, 5] (fun lf i wr => i = .int .i64 0 ∧ lf = .int .i64 L ∧ wr = w) (fun _ i _ => 0)
    case atStart => exact ⟨rfl, by simp, rfl⟩
    case round =>
      obtain ⟨rfl, rfl, rfl⟩ := hrel
      go_wp2_with fail
      go_ret
      exact ⟨ret_int (unhide E).symm, Below.refl _ _⟩
  | row b off cap l kv p0 p1 p2 p3 p4 p5 p6 p7 ih =>
    intro L w hL0 hL1 hb0
    have HC := hide (BrAt.mk p3 p4 p5 p6 p7 : BrAt S w0 b off l kv)
    have HI := hide ih
    have HB0 := hide hb0
    have hlm : l.length ≤ 9223372036854775807 := by unfold maxLen at p2; omega
    clear p3 p4 p5 p6 p7 ih hb0 p1 p2
    have hw0 := wtS_lo l
    have HW := hide (wtL_eq l)
    by_cases hl : L < l.length
    · have E : Hid (szB L (wtL l) = -1) := hide (by rw [unhide HW]; unfold szB; rw [if_neg (by omega)])
      have hl2 : L - (l.length : Int) < 0 := by omega
      go_enter Tryd.func32, Tryd.ntmps32
      go_wp2_with fail
      go_ret
      exact ⟨ret_int (unhide E).symm, Below.refl _ _⟩
    · have hl2 : ¬ L - (l.length : Int) < 0 := by omega
      go_enter Tryd.func32, Tryd.ntmps32
      go_wp2_with fail
      go_loopw [1, 5] (fun lf i wr => ∃ (k : Nat) (x : Int), k ≤ l.length ∧ i = .int .i64 k ∧ lf = .int .i64 x ∧ x = L - (l.length : Int) - (wtS l - wtS (l.drop k)) ∧ 0 ≤ x ∧ Below w.heap.size w wr) (fun _ i _ => l.length - (intOf i).toNat)
      case atStart => exact ⟨0, _, Nat.zero_le _, rfl, rfl, by rw [List.drop_zero]; omega, by omega, Below.refl _ _⟩
      case round =>
        obtain ⟨k, x, hk, rfl, rfl, hx, hx0, hb⟩ := hrel
        by_cases hlt : k < l.length
        · obtain ⟨s0, s1, s2, s3⟩ := (unhide HC).cells k hlt
          have hbl := (unhide HC).lt
          have hb00 := (unhide HB0).trans (hb.mono (unhide HB0).size)
          have c0 := (hb00.cell (p := ⟨b, off + k * 4, none⟩) hbl).trans s0
          have c1 := (hb00.cell (p := ⟨b, off + k * 4 + 1, none⟩) hbl).trans s1
          have c2 := (hb00.cell (p := ⟨b, off + k * 4 + 2, none⟩) hbl).trans s2
          have c3 := (hb00.cell (p := ⟨b, off + k * 4 + 3, none⟩) hbl).trans s3
          obtain ⟨ka, kc, hkv, _, _⟩ := ((unhide HC).kids k hlt).shape
          have hk0 : (0 : Int) ≤ (k : Int) := by omega
          have hk1 : (k : Int) < (l.length : Int) := by omega
          have hd := wtS_drop l k hlt
          have hle := wtS_le l k
          have hle2 := wtS_lo (l.drop (k + 1))
          obtain ⟨hzk, hzv⟩ := (unhide HC).small k hlt
          have hx1 : x ≤ 1048576 := by omega
          have hbs := hb.size
          have HB := hide hb
          have HSZ := hide (fun wx (hbx : Below w.heap.size w wx) => szBranch_of (l.getD k default).key (l.getD k default).val (l.getD k default).at_ (l.getD k default).kids ka (l.getD k default).kids.length kc x wx hx0 hx1 hzk hzv
            (fun L' wy q0 q1 q2 => by
              have := unhide HI k hlt L' wy q0 q1 ((unhide HB0).trans ((hbx.trans (q2.mono hbx.size)).mono (unhide HB0).size))
              rw [hkv] at this
              exact this))
          rw [hkv] at c3
          have e9 : Br.mk (l.getD k default).key (l.getD k default).val (l.getD k default).at_ (l.getD k default).kids = l.getD k default := by cases l.getD k default; rfl
          rw [e9] at HSZ
          have HSF : Hid (szB x (l.getD k default).wt = if (l.getD k default).wt ≤ x then x - (l.getD k default).wt else -1) := rfl
          have HWW := hide (And.intro hd (And.intro hle (And.intro hle2 hx)))
          clear hb00 s0 s1 s2 s3 hb e9 hkv hd hle hle2 hx hzk hzv hw0
          generalize (l.getD k default).wt = fw at *
          generalize (l.getD k default).key = fk at *
          generalize (l.getD k default).val = fv at *
          generalize (l.getD k default).at_ = fa at *
          generalize (l.getD k default).kids.length = fn at *
          generalize szB x fw = r at *
          go_wp2_with fail
          refine (unhide HSZ wr (unhide HB)).mono ?_
          rintro e w2 ⟨rfl, hb2⟩
          have HB2 := hide ((unhide HB).trans (hb2.mono hbs))
          clear hb2 HB HSZ
          by_cases hr0 : r < 0
          · have E : Hid (szB L (wtL l) = -1) := hide (by
              obtain ⟨g1, g2, g3, g4⟩ := unhide HWW
              have g5 := unhide HSF
              rw [unhide HW]
              unfold szB; rw [if_neg]
              split at g5 <;> omega)
            obtain rfl : r = -1 := by have g5 := unhide HSF; split at g5 <;> omega
            go_wp2_with fail
            go_ret
            exact ⟨ret_int (unhide E).symm, unhide HB2⟩
          · go_wp2_with fail
            refine ⟨⟨k + 1, r, by omega, by go_num, rfl, ?_, by omega, unhide HB2⟩, ?_⟩
            · obtain ⟨g1, g2, g3, g4⟩ := unhide HWW
              have g5 := unhide HSF
              split at g5 <;> omega
            · simp [intOf]; omega
        · obtain rfl : k = l.length := by omega
          rw [wtS_end] at hx
          have E : Hid (szB L (wtL l) = x) := hide (by rw [unhide HW]; unfold szB; rw [if_pos (by omega)]; omega)
          have R := hide hb
          clear hb hx
          go_wp2_with fail
          go_ret
          exact ⟨ret_int (unhide E).symm, unhide R⟩
end Go.Proofs.YtinpoaghedhknaaDoor.Sha
