/- What the proof of the claim needs (joined by program): SrcS SrcH SrcI AtS. -/
import Derived.Test.YtlbcdngidfjogaaGreatDoorQba20
import Derived.Test.YtlbcdngidfjogaaGreatDoorQba21
import Derived.Test.YtlbcdngidfjogaaGreatDoorQba00
import Derived.Test.YtlbcdngidfjogaaGreatDoorQba06
import Derived.Deep.RegionHeld3
import Derived.Deep.RegionLaw
import Derived.Deep.Cut
namespace Go.Proofs.YtlbcdngidfjogaaGreatDoor
set_option maxRecDepth 100000
set_option maxHeartbeats 8000000
open Go.ChangeShapes Go.WideShapes Go.ChangeAt Go.RowKit
set_option linter.unusedVariables false
set_option linter.unusedSimpArgs false
theorem srcSize_any (w : World) (b : Nat) (a : Option Addr) (cap : Nat) (l : List Int) (M : Int) (h : Src w b a cap l M) :
  Calls Tryz.prog 16 #[.pointer (some ⟨b, 0, none⟩), .int .i64 20] w fun e w' => ∃ n : Int, e = .returned (.int .i64 n) ∧ 1 ≤ n ∧ n ≤ 20 ∧ w' = w := by
 have hl := h.len
 obtain ⟨p, s, _, _, _, _, c0, _⟩ := h
 generalize l.length = n at *
 have q1 : (n : Int).tdiv 12 = (n : Int) / 12 := Int.tdiv_eq_ediv_of_nonneg (by omega)
 have q2 : IntKind.i64.wrap ((n : Int) / 12) = (n : Int) / 12 := wrapS _ (by omega) (by omega)
 have q3 : IntKind.i64.wrap (1 + (n : Int) / 12) = 1 + (n : Int) / 12 := wrapS _ (by omega) (by omega)
 generalize hk : (n : Int) / 12 = k at *
 have hk0 : 0 ≤ k := by omega
 clear hk hl
 by_cases h20 : 1 + k ≤ 20
 ·go_enter Tryz.func16, Tryz.ntmps16
  go_wp2_with fail
  go_ret
  exact ⟨1 + k, rfl, by omega, by omega, rfl⟩
 ·go_enter Tryz.func16, Tryz.ntmps16
  go_wp2_with fail
  go_ret
  exact ⟨20, rfl, by omega, by omega, rfl⟩
def cmR (c : Cm) : Bool := cmdOK c.kd c.ss c.sq c.ky c.vl
structure RowC (B b : Nat) (w0 : World) (a : Option Addr) (cap : Nat) (l : List Int) (v : Value) (L : List Cm) (M : Int) (w : World) : Prop where
 own : OwnC B w v L
 ok : ∀ i, i < L.length → cmR (L.getD i default) = true
 src : Src w b a cap l M
 tch : Touch (fun k => k = b) w0 w
def twoC : List Cm := [⟨4, 1, 0, ⟨#[]⟩, ⟨#[]⟩⟩, ⟨4, 2, 0, ⟨#[]⟩, ⟨#[]⟩⟩]
theorem openCm : ∀ i, i < twoC.length → cmR (twoC.getD i default) = true
 | 0, _ => by decide +kernel
 | 1, _ => by decide +kernel
theorem twoOwn (w : World) : OwnC w.heap.size (w.alloc (.cells #[.int .i64 4, .int .i64 1, .int .i64 0, .string ⟨#[]⟩, .string ⟨#[]⟩, .int .i64 4, .int .i64 2, .int .i64 0, .string ⟨#[]⟩, .string ⟨#[]⟩] 31)) (.slice (some ⟨w.heap.size, 0, none⟩) 2 2) twoC :=
 ⟨rfl, .inr ⟨w.heap.size, 2, _, rfl, Nat.le_refl _, heap_alloc_new w _, Nat.le_refl _, by unfold maxLen; omega, rfl, rfl⟩⟩
theorem RowC.mono {B b : Nat} {w0 : World} {a : Option Addr} {cap : Nat} {l : List Int} {v : Value} {L : List Cm} {M M' : Int} {w : World} (h : RowC B b w0 a cap l v L M w) (hm : M ≤ M') : RowC B b w0 a cap l v L M' w := ⟨h.own, h.ok, h.src.mono hm, h.tch⟩
theorem RowC.drawn {B b : Nat} {w0 : World} {a : Option Addr} {cap : Nat} {l : List Int} {v : Value} {L : List Cm} {M M' : Int} {w w' : World} (h : RowC B b w0 a cap l v L M w) (hb : b < B) (hS : Src w' b a cap l M') (ht : Touch (fun k => k = b) w w') : RowC B b w0 a cap l v L M' w' :=
 ⟨h.own.kept ht (fun q hq e => by have := (h.own.lt q hq).1; omega), h.ok, hS, h.tch.trans ht (fun _ _ e => e)⟩
theorem commands_any (w : World) (b : Nat) (a : Option Addr) (cap : Nat) (l : List Int) (M : Int) (h : Src w b a cap l M) (hM : M ≤ 1000) :
  Calls Tryz.prog 9 #[.pointer (some ⟨b, 0, none⟩)] w fun e w' => ∃ (v : Value) (L : List Cm), e = .returned v ∧ OwnC w.heap.size w' v L ∧ 2 ≤ L.length ∧ L.length ≤ 100 ∧ (∀ i, i < L.length → cmR (L.getD i default) = true) ∧ Touch (fun k => k = b) w w' := by
 have hbw := h.lt
 obtain ⟨i0, hi, hz0, hz1, hz2⟩ := info_parts infoCm
 have T0 := (Touch.refl (fun k => k = b) w).alloc (.cells #[.int .i64 4, .int .i64 1, .int .i64 0, .string ⟨#[]⟩, .string ⟨#[]⟩, .int .i64 4, .int .i64 2, .int .i64 0, .string ⟨#[]⟩, .string ⟨#[]⟩] 31)
 have R0 : Hid (RowC w.heap.size b w a cap l (.slice (some ⟨w.heap.size, 0, none⟩) 2 2) twoC M (w.alloc (.cells #[.int .i64 4, .int .i64 1, .int .i64 0, .string ⟨#[]⟩, .string ⟨#[]⟩, .int .i64 4, .int .i64 2, .int .i64 0, .string ⟨#[]⟩, .string ⟨#[]⟩] 31))) := Hd ⟨twoOwn w, openCm, h.alloc _, T0⟩
 clear T0 h
 go_enter Tryz.func9, Tryz.ntmps9
 go_upto_region 2 with fail
 generalize w.alloc (.cells #[.int .i64 4, .int .i64 1, .int .i64 0, .string ⟨#[]⟩, .string ⟨#[]⟩, .int .i64 4, .int .i64 2, .int .i64 0, .string ⟨#[]⟩, .string ⟨#[]⟩] 31) = w1 at *
 have HB := Hd hbw
 go_wp2_with fail
 refine (srcSize_any w1 b a cap l M (uh R0).src).mono ?_
 rintro e w2 ⟨n, rfl, hn1, hn20, hwe⟩
 subst hwe
 have q4 : IntKind.i64.wrap (n + 4) = n + 4 := wrapS _ (by omega) (by omega)
 go_wp2_with fail
 refine (srcNext_any (n + 4) w2 b a cap l M (uh R0).src (by omega) (by omega) (by omega)).mono ?_
 rintro e w3 ⟨x, rfl, hx0, hx1, hS, hO⟩
 have R3 : Hid (RowC w.heap.size b w a cap l (.slice (some ⟨w.heap.size, 0, none⟩) 2 2) twoC (M + 3) w3) := Hd ((uh R0).drawn hbw hS hO.touch)
 have hx30 : x < 24 := by omega
 clear hS hO R0 q4 hn1 hn20 hx1
 generalize x = x0 at *
 go_wp2_with fail
 go_loopw [3, 4] (fun v i wr => ∃ (k : Int) (L : List Cm), i = .int .i64 k ∧ 0 ≤ k ∧ k ≤ x0 ∧ Hid (2 ≤ L.length ∧ L.length ≤ 100 ∧ RowC w.heap.size b w a cap l v L (M + 3 + 100 * (x0 - k)) wr)) (fun _ i _ => (intOf i).toNat)
 case atStart => exact ⟨x0, twoC, rfl, hx0, by omega, Hd ⟨by decide, by decide, (uh R3).mono (by omega)⟩⟩
 case round =>
  obtain ⟨k, L, rfl, hk0, hkx, HR⟩ := hrel
  clear R3
  obtain ⟨v, hv⟩ : ∃ v, v = u3 := ⟨_, rfl⟩
  subst hv
  obtain ⟨h2, h100, hrow⟩ := uh HR
  obtain ⟨va, vc, hve, _⟩ := hrow.own.read
  subst hve
  have RW := Hd hrow
  have HL2 := Hd h2
  have h10i : (L.length : Int) ≤ 100 := by omega
  clear hrow HR
  by_cases hk : 0 < k
  ·by_cases hl : (L.length : Int) < 100
   ·have bk : decide (0 < k) = true := by rw [decide_eq_true_eq]; exact hk
    have m1 : IntKind.i64.wrap (k - 1) = k - 1 := wrapS _ (by omega) (by omega)
    go_wp2_with fail
    refine (srcCommand_any wr b a cap l (M + 3 + 100 * (x0 - k)) (uh RW).src (by omega)).mono ?_
    rintro e w5 ⟨ck, cs, cq, key, val, rfl, hok, _, hS, hT⟩
    have R5 := Hd ((uh RW).drawn hbw hS hT)
    have hOK := Hd hok
    have bA := bal w5 (.cells #[.int .i64 ck, .int .i64 cs, .int .i64 cq, .string key, .string val] 31)
    have O6 := Hd ((uh R5).own.below bA)
    unfold OwnC at O6
    have V6 := Hd (Blk.new w5 #[.int .i64 ck, .int .i64 cs, .int .i64 cq, .string key, .string val] 31 w5.heap.size rfl)
    have hw6 : w.heap.size ≤ (w5.alloc (.cells #[.int .i64 ck, .int .i64 cs, .int .i64 cq, .string key, .string val] 31)).heap.size := Nat.le_trans (uh R5).tch.size bA.size
    clear hS hT hok bA RW
    go_wp2_with (at_builtin; refine wpList_append_row _ rfl _ _ _ rfl w.heap.size 31 i0 _ 5 56 Tryz.underlying23 hi hz0 hz1 hz2 rfl (by omega) _ L.length (csC L) rfl (uh O6) _ 1 [.int .i64 ck, .int .i64 cs, .int .i64 cq, .string key, .string val] rfl ⟨_, _, rfl, .inr ⟨_, rfl, fun j u hj => by rw [Addr.add_lit, Nat.zero_add]; exact (uh V6).cell j hj⟩⟩ rfl (by simp [Value.oneCell']) (by unfold maxLen; omega) (by omega) hw6 ?_; intro a6 c6 w6 hown6 hgrow6 hat6; have HA6 := Hd (And.intro hown6 hgrow6); clear hown6 hgrow6 hat6)
    obtain ⟨hown6, hgrow6⟩ := uh HA6
    have hlt6 := fun q hq => (World.ownsRow.lt (uh O6) q hq).1
    refine ⟨⟨k - 1, L ++ [⟨ck, cs, cq, key, val⟩], by go_num, by omega, by omega, Hd ⟨by rw [List.length_append]; omega, by rw [List.length_append]; simp; omega, ⟨?_, ?_, ?_, ?_⟩⟩⟩, ?_⟩
    ·unfold OwnC
     rw [List.length_append, csC_app]
     exact hown6
    ·intro i hi9
     rw [List.length_append] at hi9
     rw [List.getD_eq_getElem?_getD]
     rcases Nat.lt_or_ge i L.length with h7 | h7
     ·rw [List.getElem?_append_left h7, ← List.getD_eq_getElem?_getD]
      exact (uh R5).ok i h7
     ·have h8 : i = L.length := by simp at hi9; omega
      subst h8
      simp
      exact uh hOK
    ·exact (((uh R5).src.alloc _).grown hgrow6 (fun q hq => by have := hlt6 q hq; omega)).mono (by omega)
    ·exact ((uh R5).tch.alloc _).grown hgrow6 (fun q hq h8 => by have := hlt6 q hq; omega)
    ·simp [intOf]; omega
   ·have bk : decide (0 < k) = true := by rw [decide_eq_true_eq]; exact hk
    go_wp2_with fail
    go_ret
    exact ⟨_, rfl, L, (uh RW).own, uh HL2, h100, (uh RW).ok, (uh RW).tch⟩
  ·have bk : decide (0 < k) = false := by rw [decide_eq_false_iff_not]; exact hk
   go_wp2_with fail
   go_ret
   exact ⟨_, rfl, L, (uh RW).own, uh HL2, h100, (uh RW).ok, (uh RW).tch⟩
theorem commandsOf_any (a : Option Addr) (cap : Nat) (l : List Int) (w : World) (h : Bytes w (.slice a l.length cap) l) (hl : l.length ≤ 2097152) :
  Calls Tryz.prog 4 #[.slice a l.length cap] w fun e w' => ∃ (v : Value) (L : List Cm), e = .returned v ∧ OwnC w.heap.size w' v L ∧ 2 ≤ L.length ∧ L.length ≤ 100 ∧ (∀ i, i < L.length → cmR (L.getD i default) = true) ∧ Below w.heap.size w w' := by
 have HS := Hd (l00Source_any a cap l w h hl)
 clear h
 go_enter Tryz.func4, Tryz.ntmps4
 go_wp2_with fail
 refine (uh HS).mono ?_
 rintro e w1 ⟨rfl, hS, hb⟩
 have hs1 := hS.lt
 have KB := Hd hb
 have HC := Hd (commands_any w1 w.heap.size a cap l 0 hS (by omega))
 clear hS hb HS
 go_wp2_with fail
 refine (uh HC).mono ?_
 rintro e w2 ⟨v, L, rfl, hO, h2, h100, hok, hT⟩
 have R := Hd (And.intro (hO.down (Nat.le_of_lt hs1)) (And.intro h2 (And.intro h100 (And.intro hok ((uh KB).trans (hT.below (Nat.le_of_lt hs1) (fun k hk e => by omega)))))))
 clear hO h2 h100 hok hT HC
 go_wp2_with fail
 go_ret
 obtain ⟨r1, r2, r3, r4, r5⟩ := uh R
 exact ⟨_, L, rfl, r1, r2, r3, r4, r5⟩
end Go.Proofs.YtlbcdngidfjogaaGreatDoor
namespace Go.Proofs.YtlbcdngidfjogaaGreatDoor
set_option maxRecDepth 100000
set_option maxHeartbeats 8000000
open Go.ChangeShapes Go.WideShapes Go.ChangeAt Go.RowKit
set_option linter.unusedVariables false
theorem wrapA (n : Int) (h0 : 0 ≤ n) (h1 : n < 9223372036854775808) : IntKind.i64.wrap n = n := by
 simp only [IntKind.wrap, IntKind.bits, IntKind.signed]
 simp
 omega
theorem at_any (v : Value) (l : List Int) (i n : Int) (w : World) (h : Bytes w v l) (hi0 : 0 ≤ i) (hi : i ≤ 1000) (hn : 2 ≤ n) (hn2 : n ≤ 1048576000) :
  Calls Tryz.prog 5 #[v, .int .i64 i, .int .i64 n] w fun e w' => ∃ r : Int, e = .returned (.int .i64 r) ∧ 0 ≤ r ∧ r < n ∧ ∃ d, w' = w.drewN d := by
 obtain ⟨a, cap, rfl, hm, hc, hr⟩ := h
 unfold maxLen at hm
 have g1 : ¬ n ≤ 1 := by omega
 have g2 : (n == 0) = false := by simp; omega
 have g3 : n ≠ 0 := by omega
 by_cases h0 : l.length = 0
 ·have m1 : IntKind.i64.wrap (i * 7) = i * 7 := wrapA _ (by omega) (by omega)
  have m5 : (i * 7).tmod n = i * 7 % n := Int.tmod_eq_emod_of_nonneg (by omega)
  have m6 : 0 ≤ i * 7 % n := Int.emod_nonneg _ (by omega)
  have m7 : i * 7 % n < n := Int.emod_lt_of_pos _ (by omega)
  have m8 : IntKind.i64.wrap (i * 7 % n) = i * 7 % n := wrapA _ (by omega) (by omega)
  have g4 : (l.length : Int) = 0 := by omega
  have g5 : ((l.length : Int) == 0) = true := by rw [g4]; rfl
  clear hc hr
  go_enter Tryz.func5, Tryz.ntmps5
  go_wp2_with fail
  go_ret
  exact ⟨_, rfl, m6, m7, 0, rfl⟩
 ·obtain ⟨b, off, rfl, hbl, hsrc⟩ : ∃ b off, a = some ⟨b, off, none⟩ ∧ b < w.heap.size ∧ ∀ i, i < l.length → w.cell? ⟨b, off + i, none⟩ = some (.int .u8 (l.getD i 0)) := by
   rcases hc with h0 | h1
   ·omega
   ·exact h1
  have hL : (l.length : Int) ≠ 0 := by omega
  have hL2 : ((l.length : Int) == 0) = false := beq_eq_false_iff_ne.2 hL
  have m1 : IntKind.i64.wrap (i + 1) = i + 1 := wrapA _ (by omega) (by omega)
  have q5 : i.tmod (l.length : Int) = i % (l.length : Int) := Int.tmod_eq_emod_of_nonneg (by omega)
  have q6 : 0 ≤ i % (l.length : Int) := Int.emod_nonneg _ (by omega)
  have q7 : i % (l.length : Int) < (l.length : Int) := Int.emod_lt_of_pos _ (by omega)
  have p5 : (i + 1).tmod (l.length : Int) = (i + 1) % (l.length : Int) := Int.tmod_eq_emod_of_nonneg (by omega)
  have p6 : 0 ≤ (i + 1) % (l.length : Int) := Int.emod_nonneg _ (by omega)
  have p7 : (i + 1) % (l.length : Int) < (l.length : Int) := Int.emod_lt_of_pos _ (by omega)
  have t5 : i.tdiv (l.length : Int) = i / (l.length : Int) := Int.tdiv_eq_ediv_of_nonneg hi0
  have t6 : 0 ≤ i / (l.length : Int) := Int.ediv_nonneg hi0 (by omega)
  have t7 : i / (l.length : Int) ≤ i := Int.ediv_le_self _ hi0
  obtain ⟨x, hx⟩ : ∃ x, x = i % (l.length : Int) := ⟨_, rfl⟩
  obtain ⟨y, hy⟩ : ∃ y, y = (i + 1) % (l.length : Int) := ⟨_, rfl⟩
  obtain ⟨z, hz⟩ : ∃ z, z = i / (l.length : Int) := ⟨_, rfl⟩
  rw [← hx] at q5 q6 q7
  rw [← hy] at p5 p6 p7
  rw [← hz] at t5 t6 t7
  clear hx hy hz
  have c1 := hsrc x.toNat (by omega)
  have c2 := hsrc y.toNat (by omega)
  have d1 := hr x.toNat
  have d2 := hr y.toNat
  clear hsrc hr hc
  generalize l.getD x.toNat 0 = bx at *
  generalize l.getD y.toNat 0 = by' at *
  have q8 : IntKind.i64.wrap x = x := wrapA _ (by omega) (by omega)
  have p8 : IntKind.i64.wrap y = y := wrapA _ (by omega) (by omega)
  have t8 : IntKind.i64.wrap z = z := wrapA _ (by omega) (by omega)
  have w1 : IntKind.i64.wrap bx = bx := wrapA _ (by omega) (by omega)
  have w2 : IntKind.i64.wrap by' = by' := wrapA _ (by omega) (by omega)
  have w3 : IntKind.i64.wrap (bx * 31) = bx * 31 := wrapA _ (by omega) (by omega)
  have w4 : IntKind.i64.wrap (bx * 31 + by') = bx * 31 + by' := wrapA _ (by omega) (by omega)
  have w5 : IntKind.i64.wrap (bx * 31 + by' + z) = bx * 31 + by' + z := wrapA _ (by omega) (by omega)
  have m5 : (bx * 31 + by' + z).tmod n = (bx * 31 + by' + z) % n := Int.tmod_eq_emod_of_nonneg (by omega)
  have m6 : 0 ≤ (bx * 31 + by' + z) % n := Int.emod_nonneg _ (by omega)
  have m7 : (bx * 31 + by' + z) % n < n := Int.emod_lt_of_pos _ (by omega)
  have m8 : IntKind.i64.wrap ((bx * 31 + by' + z) % n) = (bx * 31 + by' + z) % n := wrapA _ (by omega) (by omega)
  go_enter Tryz.func5, Tryz.ntmps5
  go_wp2_with fail
  go_quiet (fail)
  go_wp2_with fail
  go_ret
  exact ⟨_, rfl, m6, m7, _, rfl⟩

end Go.Proofs.YtlbcdngidfjogaaGreatDoor
