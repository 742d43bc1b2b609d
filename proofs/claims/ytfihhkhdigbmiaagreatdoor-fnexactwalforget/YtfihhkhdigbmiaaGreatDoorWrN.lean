/- The writer's numbers: each in so many bytes, the higher ones first. -/
import Derived.Test.YtfihhkhdigbmiaaGreatDoorWr
import Derived.Deep.RegionLaw
import Derived.WalkSpells
namespace Go.Proofs.YtfihhkhdigbmiaaGreatDoor
open Go.ChangeShapes Go.WideShapes Go.ChangeAt Go.RowKit
set_option linter.unusedVariables false

/-- n in m bytes, the higher ones first. -/
def encN (n : Int) : Nat → List Int
  | 0 => []
  | m + 1 => (n / 256 ^ m % 256) :: encN n m
def encAll (m : Nat) : List Int → List Int
  | [] => []
  | n :: r => encN n m ++ encAll m r
theorem encN_len (n : Int) (m : Nat) : (encN n m).length = m := by
  induction m with
  | zero => rfl
  | succ m ih => simp [encN, ih]
theorem encAll_len (m : Nat) (l : List Int) : (encAll m l).length = m * l.length := by
  induction l with
  | nil => rfl
  | cons n r ih => simp [encAll, encN_len, ih, Nat.mul_add]; omega

theorem encAll_drop (m : Nat) (l : List Int) (k : Nat) (h : k < l.length) : encAll m (l.drop k) = encN (l.getD k 0) m ++ encAll m (l.drop (k + 1)) := by
  rw [List.drop_eq_getElem_cons h, List.getD_eq_getElem?_getD, List.getElem?_eq_getElem h]; rfl
theorem gather_len {m k : Nat} {xs ys ns : List Int} (h : ys ++ encAll m (ns.drop k) = xs ++ encAll m ns) (hm : m ≤ 4) (hx : xs.length ≤ 70000) (hn : ns.length ≤ 4096) : ys.length ≤ 86400 := by
  have e := congrArg List.length h
  rw [List.length_append, List.length_append, encAll_len m ns] at e
  have : m * ns.length ≤ 4 * 4096 := Nat.mul_le_mul hm hn
  omega
theorem gather_len2 {m j : Nat} {n : Int} {zs ys : List Int} (h : zs ++ encN n j = ys ++ encN n m) (hm : m ≤ 4) (hy : ys.length ≤ 86400) : zs.length ≤ 86404 := by
  have e := congrArg List.length h
  rw [List.length_append, List.length_append, encN_len, encN_len] at e
  omega
theorem wrapI (n : Int) (h0 : 0 ≤ n) (h1 : n < 9223372036854775808) : IntKind.i64.wrap n = n := by
  simp only [IntKind.wrap, IntKind.bits, IntKind.signed]
  simp
  omega
theorem wrapB (n : Int) (q : Nat) : IntKind.u8.wrap (n / 2 ^ (8 * (q : Int)).toNat) = n / 256 ^ q % 256 := by
  have e : (2 : Int) ^ (8 * (q : Int)).toNat = 256 ^ q := by
    rw [show (8 * (q : Int)).toNat = 8 * q by omega, Int.pow_mul]; rfl
  rw [e]; simp [IntKind.wrap, IntKind.bits, IntKind.signed]
theorem encN_range (n : Int) (m : Nat) : ∀ i, 0 ≤ (encN n m).getD i 0 ∧ (encN n m).getD i 0 ≤ 255 := by
  induction m with
  | zero => intro i; simp [encN]
  | succ m ih =>
    intro i
    cases i with
    | zero => simp only [encN, List.getD_cons_zero]; omega
    | succ i => simp only [encN, List.getD_cons_succ]; exact ih i
theorem one_range {x : Int} (h0 : 0 ≤ x) (h1 : x ≤ 255) : ∀ i, 0 ≤ [x].getD i 0 ∧ [x].getD i 0 ≤ 255 := fun i => by
  cases i with
  | zero => simp; omega
  | succ i => simp

set_option maxRecDepth 100000 in
set_option maxHeartbeats 1000000 in
theorem numbers_any (b m : Nat) (v : Value) (xs ns : List Int) (L off cap : Nat) (w : World) (h : Wr w b v xs) (hm : m ≤ 4) (hL : L < w.heap.size) (hLb : L ≠ b) (hLv : v.ownBlock ≠ some L)
    (hc : ∀ i, i < ns.length → w.cell? ⟨L, off + i, none⟩ = some (.int .i64 (ns.getD i 0))) (hr : ∀ i, 0 ≤ ns.getD i 0 ∧ ns.getD i 0 < 4294967296) (hlen : ns.length ≤ 4096) (hxl : xs.length ≤ 70000) :
    Calls Tryz.prog 89 #[.pointer (some ⟨b, 0, none⟩), .int .i64 m, .slice (some ⟨L, off, none⟩) ns.length cap] w fun e w' => e = .returned (.tuple #[]) ∧ ∃ v', Wr w' b v' (xs ++ encAll m ns) ∧ Touch (WT b v) w w' ∧ Lies v v' w.heap.size := by
  obtain ⟨i0, hi, hz0, hz1, hz2⟩ := info_parts info5
  have HW := hide h
  have HC := hide hc
  have HR := hide hr
  clear h hc hr
  go_enter Tryz.func89, Tryz.ntmps89
  go_wp2_with fail
  go_loopw [7, 8, 11] (fun _ _ i wr => ∃ (k : Nat) (u : Value) (ys : List Int), k ≤ ns.length ∧ i = .int .i64 k ∧ Wr wr b u ys ∧ ys ++ encAll m (ns.drop k) = xs ++ encAll m ns ∧ Touch (WT b v) w wr ∧ Lies v u w.heap.size) (fun _ _ i _ => ns.length - (intOf i).toNat)
  case atStart => exact ⟨0, v, xs, Nat.zero_le _, rfl, unhide HW, rfl, Touch.refl _ _, Lies.refl _ _⟩
  case round =>
    obtain ⟨k, u, ys, hk, rfl, hW, hE, hT, hLi⟩ := hrel
    by_cases hlt : k < ns.length
    · have hs1 : wr.cell? ⟨L, off + k, none⟩ = some (.int .i64 (ns.getD k 0)) := by
        rw [hT.cell (p := ⟨L, off + k, none⟩) hL (fun hx => by rcases hx with h1 | h1; exact hLb h1; exact hLv h1)]
        exact unhide HC k hlt
      have hr1 := unhide HR k
      have hk0 : (0 : Int) ≤ (k : Int) := by omega
      have hk1 : (k : Int) < (ns.length : Int) := by omega
      have HR2 := hide (And.intro hW (And.intro hE (And.intro hT hLi)))
      have hyl := gather_len hE hm hxl hlen
      have HD := hide (encAll_drop m ns k hlt)
      clear hW hE hT hLi
      generalize ns.getD k 0 = n at *
      go_wp2_with fail
      obtain ⟨wo, rfl⟩ : ∃ wo : World, wo = wr := ⟨_, rfl⟩
      go_loopw [8] (fun i wr => ∃ (j : Nat) (u' : Value) (zs : List Int), j ≤ m ∧ (∃ x : Int, x = (j : Int) - 1 ∧ i = .int .i64 x) ∧ Wr wr b u' zs ∧ zs ++ encN n j = ys ++ encN n m ∧ Touch (WT b v) w wr ∧ Lies v u' w.heap.size) (fun i _ => ((intOf i) + 1).toNat)
      case atStart => 
        obtain ⟨hW, hE, hT, hLi⟩ := unhide HR2
        exact ⟨m, u, ys, Nat.le_refl _, ⟨_, rfl, rfl⟩, hW, rfl, hT, hLi⟩
      case round =>
        obtain ⟨j, u', zs, hj, ⟨x, hx, rfl⟩, hW', hE', hT', hLi'⟩ := hrel
        have hzl := gather_len2 hE' hm hyl
        by_cases hj0 : 0 < j
        · obtain ⟨q, rfl⟩ : ∃ q, j = q + 1 := ⟨j - 1, by omega⟩
          obtain rfl : x = (q : Int) := by omega
          have hq : q ≤ 3 := by omega
          clear hx
          have hcell := hW'.1
          have hfr := hW'.2.1
          have hbl := hW'.2.2.1
          have HW2 := hide hW'
          have HE2 := hide hE'
          have HT2 := hide hT'
          have HL2 := hide hLi'
          have hne : some b ≠ u'.ownBlock := fun e => by have := (hW'.row b e.symm).1; omega
          have HN := hide hne
          clear hW' hE' hT' hLi' hne
          have m1 : IntKind.i64.wrap (8 * (q : Int)) = 8 * (q : Int) := wrapI _ (by omega) (by omega)
          have m2 := wrapB n q
          have p0 : 0 ≤ 8 * (q : Int) := by omega
          have p1 : 8 * (q : Int) ≤ 64 := by omega
          go_wp2_with fail
          go_region_law (refine step_append_lies _ (by rfl) _ _ _ (by rfl) (b + 1) 5 i0 _ 1 1 Tryz.underlying79 hi hz0 hz1 hz2 rfl (by omega) u' zs.length (zs.map (Value.int .u8)) (by rfl) (((unhide HW2).alloc _).drew).2.2.2.1 ⟨wr.heap.size, 0, none⟩ 1 1 [_] (by rfl) (by rfl) (World.news_of_block (cs := #[_]) (t := 5) (fr := (0, 0)) (heap_alloc_new wr _)) (by simp [Value.oneCell']) (by omega) (by unfold maxLen; omega) (by omega) (by simp; omega) (wr.heap.size + 1) (by simp) ?_; intro gg capg w1 hown1 hgrow hat hlt1; have hc1 : w1.cell? ⟨b, 0, none⟩ = some u' := (hgrow.cell_far ⟨b, 0, none⟩ (by simp; omega) (unhide HN)).trans (((unhide HW2).alloc _).drew).1; have hf1 : w1.frozen? ⟨b, 0, none⟩ = false := (hgrow.frozen_far ⟨b, 0, none⟩ (by simp; omega) (unhide HN)).trans (((unhide HW2).alloc _).drew).2.1)
          all_goals
            have hx0 : 0 ≤ n / 256 ^ q % 256 := by omega
            have hx1 : n / 256 ^ q % 256 ≤ 255 := by omega
            have R := hide ((unhide HW2).pushed hown1 hgrow hat hx0 hx1)
            have hE2 : Hid ((zs ++ [n / 256 ^ q % 256]) ++ encN n q = ys ++ encN n m) := hide (by rw [List.append_assoc]; exact unhide HE2)
            clear hown1 hgrow hat hlt1 hc1 hf1 m2
            generalize n / 256 ^ q % 256 = y at *
            go_wp2_with fail
            go_roundw
            case rel => exact ⟨q, _, _, by omega, ⟨_, rfl, rfl⟩, (unhide R).1, unhide hE2, (unhide HT2).wr (unhide HL2) (unhide R).2.1, (unhide HL2).trans (unhide R).2.2 (unhide HT2).size⟩
            case measure => simp [intOf]
        · obtain rfl : j = 0 := by omega
          obtain rfl : x = -1 := by omega
          have hE3 := hide (by have := hE'; simp only [encN, List.append_nil] at this; exact this)
          have R := hide (And.intro hW' (And.intro hT' hLi'))
          clear hW' hE' hT' hLi' hx
          go_wp2_with fail
          go_roundw
          case rel => exact ⟨k + 1, u', zs, by omega, by go_num, (unhide R).1, by rw [unhide hE3, List.append_assoc, ← unhide HD]; exact (unhide HR2).2.1, (unhide R).2.1, (unhide R).2.2⟩
          case measure => simp [intOf]; omega
    · obtain rfl : k = ns.length := by omega
      have R := hide (And.intro hW (And.intro hE (And.intro hT hLi)))
      clear hW hE hT hLi
      go_wp2_with fail
      go_end0
      refine ⟨rfl, u, ?_, (unhide R).2.2.1, (unhide R).2.2.2⟩
      have e := (unhide R).2.1
      rw [List.drop_length] at e
      simp only [encAll, List.append_nil] at e
      rw [← e]; exact (unhide R).1
end Go.Proofs.YtfihhkhdigbmiaaGreatDoor
