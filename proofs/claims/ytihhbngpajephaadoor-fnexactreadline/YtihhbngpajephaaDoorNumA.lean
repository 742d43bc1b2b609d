/- A text's number: pure; spec.l00Number. -/
import Derived.Test.YtihhbngpajephaaDoorStrO
import Derived.Test.YtihhbngpajephaaDoorIn
import Derived.Test.YtihhbngpajephaaDoorNumP
import Derived.Deep.DeepCutAuto
namespace Go.Proofs.YtihhbngpajephaaDoor.Sha
open Go.ChangeShapes Go.WideShapes Go.ChangeAt Go.RowKit
set_option linter.unusedVariables false
set_option linter.unusedSimpArgs false

set_option maxRecDepth 100000 in
set_option maxHeartbeats 4000000 in
theorem l00Number_any (t : ByteArray) (w : World) (ht : t.size ≤ 65536) :
    Calls Tryd.prog 15 #[.string t] w fun e w' => e = .returned (.tuple #[.int .i64 (numT t).1, .bool (numT t).2]) ∧ w' = w := by
  have HO := hide (And.intro (numT_bad (t := t)) (numT_go (t := t)))
  have HD := hide (digs_next (unsT t))
  have HND := hide (fun (k : Nat) (hk : k < (unsT t).size) h => digs_no (u := unsT t) (n := (unsT t).size) (k := k) hk h)
  have HA := hide (accN_in (unsT t))
  have HS : Hid (∀ k, accN (unsT t) (k + 1) = accN (unsT t) k * 10 + bAt (unsT t) k - 48) := hide (fun k => rfl)
  generalize numT t = out at *
  obtain ⟨on, ob⟩ := out
  go_enter Tryd.func15, Tryd.ntmps15
  by_cases h0 : 0 < t.size
  · have hb0 := bAt_eq t 0 h0
    have h1 : (0 : Int) < (t.size : Int) := by omega
    have h2 : (1 : Int) ≤ (t.size : Int) := by omega
    by_cases hc : bAt t 0 = 45
    · have hs : sgnT t = true := by unfold sgnT; rw [hc, decide_eq_true h0]; rfl
      have hu : unsT t = t.extract 1 t.size := by unfold unsT; rw [if_pos hs]
      rw [hu] at HO HD HND HA HS
      rw [hs] at HO
      clear hs hu
      generalize bAt t 0 = c at *
      go_upto_region 5 with fail
      have hus : (t.extract 1 t.size).size ≤ 65536 := by rw [ByteArray.size_extract]; omega
      generalize t.extract 1 t.size = u at *
      clear hb0 h1 h2
      have u0 : (0 : Int) ≤ (u.size : Int) := by omega
      by_cases e0 : u.size = 0
      · have e1 : ((u.size : Int) == 0) = true := by rw [beq_iff_eq]; omega
        have HB := hide ((unhide HO).1 (.inl e0))
        obtain ⟨rfl, rfl⟩ := Prod.mk.inj (unhide HB)
        clear HB HO HD HND HA HS
        go_wp2_with fail
        go_ret2
        exact ⟨rfl, rfl⟩
      have e1 : ((u.size : Int) == 0) = false := by rw [beq_eq_false_iff_ne]; omega
      by_cases e2 : 18 < u.size
      · have e3 : (18 : Int) < (u.size : Int) := by omega
        have HB := hide ((unhide HO).1 (.inr (.inl e2)))
        obtain ⟨rfl, rfl⟩ := Prod.mk.inj (unhide HB)
        clear HB HO HD HND HA HS
        go_wp2_with fail
        go_ret2
        exact ⟨rfl, rfl⟩
      have e3 : ¬ (18 : Int) < (u.size : Int) := by omega
      have hx0 : (0 : Int) < (u.size : Int) := by omega
      have hb0 := bAt_eq u 0 (by omega)
      have HC0 := hide (show bAt u 0 = bAt u 0 from rfl)
      by_cases c0 : bAt u 0 = 48
      · have HB := hide ((unhide HO).1 (.inr (.inr ⟨c0, .inr rfl⟩)))
        obtain ⟨rfl, rfl⟩ := Prod.mk.inj (unhide HB)
        clear HB HO HD HND HA HS HC0
        generalize bAt u 0 = c at *
        go_wp2_with fail
        all_goals
          go_ret2
          exact ⟨rfl, rfl⟩
      · have c1 : (bAt u 0 == 48) = false := by rw [beq_eq_false_iff_ne]; exact c0
        have HO2 := hide ((unhide HO).2 (by rintro (h | h | ⟨h, _⟩) <;> first | omega | exact c0 h))
        clear HO
        generalize hcc : bAt u 0 = c at *
        clear hcc c0
        go_wp2_with fail
        go_loopw [5, 6] (fun nv iv wr => ∃ k : Nat, k ≤ u.size ∧ iv = .int .i64 k ∧ nv = .int .i64 (accN u k) ∧ digs u k = true ∧ wr = w) (fun _ i _ => u.size - (intOf i).toNat)
        case atStart => exact ⟨0, Nat.zero_le _, rfl, rfl, rfl, rfl⟩
        case round =>
          obtain ⟨k, hk, rfl, rfl, hdg, hwr⟩ := hrel
          subst hwr
          obtain ⟨a0, a1⟩ := unhide HA k hdg
          by_cases hlt : k < u.size
          · have a2 := pow17 (k := k) (by omega)
            have a3 : accN u k ≤ 99999999999999999 := by omega
            clear a1 a2
            have hk0 : (0 : Int) ≤ (k : Int) := by omega
            have hk1 : (k : Int) < (u.size : Int) := by omega
            have hbk := bAt_eq u k hlt
            have hlo := bAt_lo u k
            have hhi := bAt_hi u k
            have HN1 := hide (unhide HS k)
            have HD1 := hide (unhide HD k)
            have HND1 := hide (unhide HND k hlt)
            have HDG := hide hdg
            clear hdg
            generalize accN u k = a at *
            generalize bAt u k = c at *
            by_cases c1 : c < 48
            · have hf := unhide HND1 (by omega)
              rw [if_neg (by rw [hf]; simp)] at HO2
              obtain ⟨rfl, rfl⟩ := Prod.mk.inj (unhide HO2)
              clear HO2 hf HND1
              go_wp2_with fail
              go_ret2
              exact ⟨rfl, rfl⟩
            by_cases c2 : 57 < c
            · have hf := unhide HND1 (by omega)
              rw [if_neg (by rw [hf]; simp)] at HO2
              obtain ⟨rfl, rfl⟩ := Prod.mk.inj (unhide HO2)
              clear HO2 hf HND1
              go_wp2_with fail
              go_ret2
              exact ⟨rfl, rfl⟩
            have m1 := wrapW (a * 10) (by omega) (by omega)
            have m2 := wrapW (a * 10 + c) (by omega) (by omega)
            have m3 := wrapW (a * 10 + c - 48) (by omega) (by omega)
            have m4 := wrapW c (by omega) (by omega)
            have m5 := wrapW ((k : Int) + 1) (by omega) (by omega)
            have HG : Hid (digs u (k + 1) = true) := hide (by rw [unhide HD1, unhide HDG]; simp; omega)
            go_wp2_with fail
            refine ⟨⟨k + 1, by omega, by go_num, by rw [unhide HN1], unhide HG, by first | rfl | trivial⟩, ?_⟩
            simp [intOf]; omega
          · obtain rfl : k = u.size := by omega
            have a2 := pow18 (k := u.size) (by omega)
            have a3 : accN u u.size ≤ 999999999999999999 := by omega
            clear a1 a2
            rw [if_pos hdg] at HO2
            obtain ⟨rfl, rfl⟩ := Prod.mk.inj (unhide HO2)
            clear HO2
            clear hdg
            generalize hga : accN u u.size = a at *
            have HGA := hide hga
            clear hga
            have hk1 : ¬ ((u.size : Nat) : Int) < (u.size : Int) := by omega
            have m1 := wrapW (1 * a) (by omega) (by omega)
            have m2 := wrapW (-1 * a) (by omega) (by omega)
            have m3 := wrapW (-a) (by omega) (by omega)
            have m4 := wrapW a (by omega) (by omega)
            go_wp2_with fail
            go_ret2
            exact ⟨by first | rfl | (simp; exact (unhide HGA).symm), rfl⟩
    · have hs : sgnT t = false := by unfold sgnT; simp [hc]
      have hu : unsT t = t := by unfold unsT; rw [if_neg (by rw [hs]; simp)]
      have hcb : (bAt t 0 == 45) = false := by rw [beq_eq_false_iff_ne]; exact hc
      rw [hu] at HO HD HND HA HS
      rw [hs] at HO
      clear hs hu
      have hcb2 := hc
      clear hc
      generalize hcg : bAt t 0 = c at *
      go_upto_region 5 with fail
      subst hcg
      clear hb0 h1 h2 hcb hcb2
      obtain ⟨u, rfl⟩ : ∃ u, u = t := ⟨t, rfl⟩
      have u0 : (0 : Int) ≤ (u.size : Int) := by omega
      by_cases e0 : u.size = 0
      · have e1 : ((u.size : Int) == 0) = true := by rw [beq_iff_eq]; omega
        have HB := hide ((unhide HO).1 (.inl e0))
        obtain ⟨rfl, rfl⟩ := Prod.mk.inj (unhide HB)
        clear HB HO HD HND HA HS
        go_wp2_with fail
        go_ret2
        exact ⟨rfl, rfl⟩
      have e1 : ((u.size : Int) == 0) = false := by rw [beq_eq_false_iff_ne]; omega
      by_cases e2 : 18 < u.size
      · have e3 : (18 : Int) < (u.size : Int) := by omega
        have HB := hide ((unhide HO).1 (.inr (.inl e2)))
        obtain ⟨rfl, rfl⟩ := Prod.mk.inj (unhide HB)
        clear HB HO HD HND HA HS
        go_wp2_with fail
        go_ret2
        exact ⟨rfl, rfl⟩
      have e3 : ¬ (18 : Int) < (u.size : Int) := by omega
      have hx0 : (0 : Int) < (u.size : Int) := by omega
      have hb0 := bAt_eq u 0 (by omega)
      have HC0 := hide (show bAt u 0 = bAt u 0 from rfl)
      by_cases c0 : bAt u 0 = 48
      · by_cases s1 : 1 < u.size
        · have s2 : (1 : Int) < (u.size : Int) := by omega
          have HB := hide ((unhide HO).1 (.inr (.inr ⟨c0, .inl s1⟩)))
          obtain ⟨rfl, rfl⟩ := Prod.mk.inj (unhide HB)
          clear HB HO HD HND HA HS HC0
          generalize bAt u 0 = c at *
          go_wp2_with fail
          go_ret2
          exact ⟨rfl, rfl⟩
        have s2 : ¬ (1 : Int) < (u.size : Int) := by omega
        have HO2 := hide ((unhide HO).2 (by rintro (h | h | ⟨_, h | h⟩) <;> first | omega | (cases h)))
        clear HO
        generalize hcc : bAt u 0 = c at *
        clear hcc
        go_wp2_with fail
        go_loopw [5, 6] (fun nv iv wr => ∃ k : Nat, k ≤ u.size ∧ iv = .int .i64 k ∧ nv = .int .i64 (accN u k) ∧ digs u k = true ∧ wr = w) (fun _ i _ => u.size - (intOf i).toNat)
        case atStart => exact ⟨0, Nat.zero_le _, rfl, rfl, rfl, rfl⟩
        case round =>
          obtain ⟨k, hk, rfl, rfl, hdg, hwr⟩ := hrel
          subst hwr
          obtain ⟨a0, a1⟩ := unhide HA k hdg
          by_cases hlt : k < u.size
          · have a2 := pow17 (k := k) (by omega)
            have a3 : accN u k ≤ 99999999999999999 := by omega
            clear a1 a2
            have hk0 : (0 : Int) ≤ (k : Int) := by omega
            have hk1 : (k : Int) < (u.size : Int) := by omega
            have hbk := bAt_eq u k hlt
            have hlo := bAt_lo u k
            have hhi := bAt_hi u k
            have HN1 := hide (unhide HS k)
            have HD1 := hide (unhide HD k)
            have HND1 := hide (unhide HND k hlt)
            have HDG := hide hdg
            clear hdg
            generalize accN u k = a at *
            generalize bAt u k = c at *
            by_cases c1 : c < 48
            · have hf := unhide HND1 (by omega)
              rw [if_neg (by rw [hf]; simp)] at HO2
              obtain ⟨rfl, rfl⟩ := Prod.mk.inj (unhide HO2)
              clear HO2 hf HND1
              go_wp2_with fail
              go_ret2
              exact ⟨rfl, rfl⟩
            by_cases c2 : 57 < c
            · have hf := unhide HND1 (by omega)
              rw [if_neg (by rw [hf]; simp)] at HO2
              obtain ⟨rfl, rfl⟩ := Prod.mk.inj (unhide HO2)
              clear HO2 hf HND1
              go_wp2_with fail
              go_ret2
              exact ⟨rfl, rfl⟩
            have m1 := wrapW (a * 10) (by omega) (by omega)
            have m2 := wrapW (a * 10 + c) (by omega) (by omega)
            have m3 := wrapW (a * 10 + c - 48) (by omega) (by omega)
            have m4 := wrapW c (by omega) (by omega)
            have m5 := wrapW ((k : Int) + 1) (by omega) (by omega)
            have HG : Hid (digs u (k + 1) = true) := hide (by rw [unhide HD1, unhide HDG]; simp; omega)
            go_wp2_with fail
            refine ⟨⟨k + 1, by omega, by go_num, by rw [unhide HN1], unhide HG, by first | rfl | trivial⟩, ?_⟩
            simp [intOf]; omega
          · obtain rfl : k = u.size := by omega
            have a2 := pow18 (k := u.size) (by omega)
            have a3 : accN u u.size ≤ 999999999999999999 := by omega
            clear a1 a2
            rw [if_pos hdg] at HO2
            obtain ⟨rfl, rfl⟩ := Prod.mk.inj (unhide HO2)
            clear HO2
            clear hdg
            generalize hga : accN u u.size = a at *
            have HGA := hide hga
            clear hga
            have hk1 : ¬ ((u.size : Nat) : Int) < (u.size : Int) := by omega
            have m1 := wrapW (1 * a) (by omega) (by omega)
            have m2 := wrapW (-1 * a) (by omega) (by omega)
            have m3 := wrapW (-a) (by omega) (by omega)
            have m4 := wrapW a (by omega) (by omega)
            go_wp2_with fail
            go_ret2
            exact ⟨by first | rfl | (simp; exact (unhide HGA).symm), rfl⟩
      · have c1 : (bAt u 0 == 48) = false := by rw [beq_eq_false_iff_ne]; exact c0
        have HO2 := hide ((unhide HO).2 (by rintro (h | h | ⟨h, _⟩) <;> first | omega | exact c0 h))
        clear HO
        generalize hcc : bAt u 0 = c at *
        clear hcc c0
        go_wp2_with fail
        go_loopw [5, 6] (fun nv iv wr => ∃ k : Nat, k ≤ u.size ∧ iv = .int .i64 k ∧ nv = .int .i64 (accN u k) ∧ digs u k = true ∧ wr = w) (fun _ i _ => u.size - (intOf i).toNat)
        case atStart => exact ⟨0, Nat.zero_le _, rfl, rfl, rfl, rfl⟩
        case round =>
          obtain ⟨k, hk, rfl, rfl, hdg, hwr⟩ := hrel
          subst hwr
          obtain ⟨a0, a1⟩ := unhide HA k hdg
          by_cases hlt : k < u.size
          · have a2 := pow17 (k := k) (by omega)
            have a3 : accN u k ≤ 99999999999999999 := by omega
            clear a1 a2
            have hk0 : (0 : Int) ≤ (k : Int) := by omega
            have hk1 : (k : Int) < (u.size : Int) := by omega
            have hbk := bAt_eq u k hlt
            have hlo := bAt_lo u k
            have hhi := bAt_hi u k
            have HN1 := hide (unhide HS k)
            have HD1 := hide (unhide HD k)
            have HND1 := hide (unhide HND k hlt)
            have HDG := hide hdg
            clear hdg
            generalize accN u k = a at *
            generalize bAt u k = c at *
            by_cases c1 : c < 48
            · have hf := unhide HND1 (by omega)
              rw [if_neg (by rw [hf]; simp)] at HO2
              obtain ⟨rfl, rfl⟩ := Prod.mk.inj (unhide HO2)
              clear HO2 hf HND1
              go_wp2_with fail
              go_ret2
              exact ⟨rfl, rfl⟩
            by_cases c2 : 57 < c
            · have hf := unhide HND1 (by omega)
              rw [if_neg (by rw [hf]; simp)] at HO2
              obtain ⟨rfl, rfl⟩ := Prod.mk.inj (unhide HO2)
              clear HO2 hf HND1
              go_wp2_with fail
              go_ret2
              exact ⟨rfl, rfl⟩
            have m1 := wrapW (a * 10) (by omega) (by omega)
            have m2 := wrapW (a * 10 + c) (by omega) (by omega)
            have m3 := wrapW (a * 10 + c - 48) (by omega) (by omega)
            have m4 := wrapW c (by omega) (by omega)
            have m5 := wrapW ((k : Int) + 1) (by omega) (by omega)
            have HG : Hid (digs u (k + 1) = true) := hide (by rw [unhide HD1, unhide HDG]; simp; omega)
            go_wp2_with fail
            refine ⟨⟨k + 1, by omega, by go_num, by rw [unhide HN1], unhide HG, by first | rfl | trivial⟩, ?_⟩
            simp [intOf]; omega
          · obtain rfl : k = u.size := by omega
            have a2 := pow18 (k := u.size) (by omega)
            have a3 : accN u u.size ≤ 999999999999999999 := by omega
            clear a1 a2
            rw [if_pos hdg] at HO2
            obtain ⟨rfl, rfl⟩ := Prod.mk.inj (unhide HO2)
            clear HO2
            clear hdg
            generalize hga : accN u u.size = a at *
            have HGA := hide hga
            clear hga
            have hk1 : ¬ ((u.size : Nat) : Int) < (u.size : Int) := by omega
            have m1 := wrapW (1 * a) (by omega) (by omega)
            have m2 := wrapW (-1 * a) (by omega) (by omega)
            have m3 := wrapW (-a) (by omega) (by omega)
            have m4 := wrapW a (by omega) (by omega)
            go_wp2_with fail
            go_ret2
            exact ⟨by first | rfl | (simp; exact (unhide HGA).symm), rfl⟩
  · have hs : sgnT t = false := by unfold sgnT; simp [h0]
    have hu : unsT t = t := by unfold unsT; rw [if_neg (by rw [hs]; simp)]
    have h1 : ¬ (0 : Int) < (t.size : Int) := by omega
    rw [hu] at HO HD HND HA HS
    have HB := hide ((unhide HO).1 (.inl (by omega)))
    have e1 : ((t.size : Int) == 0) = true := by rw [beq_iff_eq]; omega
    obtain ⟨rfl, rfl⟩ := Prod.mk.inj (unhide HB)
    clear h0 hs hu HB HO HD HND HA HS
    go_wp2_with fail
    go_ret2
    exact ⟨rfl, rfl⟩
end Go.Proofs.YtihhbngpajephaaDoor.Sha
