/- impl.MapDrop. -/
import Derived.Test.YtcmdilmjdnbfkaaDoorBrBh
import Derived.Test.YtcmdilmjdnbfkaaDoorBrWo
namespace Go.Proofs.YtcmdilmjdnbfkaaDoor.Sha
open Go.ChangeShapes Go.WideShapes Go.ChangeAt Go.RowKit
set_option linter.unusedVariables false
set_option linter.unusedSimpArgs false

/-- What MapDrop answers of a map: the branch, the code. -/
def mdO (o : Option Tr) (key : ByteArray) : Br × Int := match o with
  | none => (brOf none, 5)
  | some t => if (leadL (kh key) t).1 = key then (brOf (dropT (kh key) t), 0) else (brOf none, 5)
def mdOut (b : Br) (key : ByteArray) : Br × Int := if txC key.size 1 24 = 0 then (match mapV b with
    | none => (brOf none, 1)
    | some o => mdO o key)
  else (brOf none, txC key.size 1 24)
/-- A branch as a value, its slices of the call's own. -/
def BrV (m : Nat) (w : World) (u : Value) (b : Br) : Prop := ∃ sa n cap, u = .agg #[.string b.key, .string b.val, .int .i64 b.at_, .slice sa n cap] ∧ BrO w (fun x => m ≤ x ∧ x < w.heap.size) (.slice sa n cap) b.kids
theorem brV_nil (m : Nat) (w : World) : BrV m w (.agg #[.string ⟨#[]⟩, .string ⟨#[]⟩, .int .i64 0, .slice none 0 0]) (brOf none) := ⟨none, 0, 0, rfl, .nil _ _ _ (by unfold maxLen; omega)⟩
set_option maxRecDepth 100000 in
set_option maxHeartbeats 1000000 in
theorem branch_nil (w : World) : Calls Tryd.prog 55 #[.pointer none] w fun e w' => BranchR (brOf none) w e w' := by
  have HGR : Hid (∀ w', Below w.heap.size w w' → BranchR (brOf none) w (.returned (.agg #[.string ⟨#[]⟩, .string ⟨#[]⟩, .int .i64 0, .slice none 0 0])) w') := hide (fun w' hb => ⟨none, 0, 0, rfl, .nil _ _ _ (by unfold maxLen; omega), hb⟩)
  have R1 := hide (Blk.new w #[.string ⟨#[]⟩, .string ⟨#[]⟩, .int .i64 0, .slice none 0 0] 37 w.heap.size rfl)
  have B1 := hide ((Below.refl w.heap.size w).alloc (Nat.le_refl _) (.cells #[.string ⟨#[]⟩, .string ⟨#[]⟩, .int .i64 0, .slice none 0 0] 37))
  have r0 := (unhide R1).cell 0 rfl
  have r1 := (unhide R1).cell 1 rfl
  have r2 := (unhide R1).cell 2 rfl
  have r3 := (unhide R1).cell 3 rfl
  go_enter Tryd.func55, Tryd.ntmps55
  go_wp2_with fail
  refine bodyPost_ret (v := .agg #[.string ⟨#[]⟩, .string ⟨#[]⟩, .int .i64 0, .slice none 0 0]) (by simp [results, Tryd.results55, go_sem, r0, r1, r2, r3]) rfl ?_
  exact unhide HGR _ (unhide B1)
/-- Behind the last stores. -/
theorem end4b {w wx : World} {R m : Nat} {x0 x1 x2 x3 : Value} {b : Br} {sa : Option Addr} {n cap : Nat} (hX : Blk wx R [x0, x1, x2, x3]) (hb : Below w.heap.size w wx) (ho : BrO wx (fun x => m ≤ x ∧ x < wx.heap.size) (.slice sa n cap) b.kids) (h0 : w.heap.size ≤ R) (h1 : R < m) :
    Blk (set4 wx R (.string b.key) (.string b.val) (.int .i64 b.at_) (.slice sa n cap)) R [.string b.key, .string b.val, .int .i64 b.at_, .slice sa n cap] ∧ BrV w.heap.size (set4 wx R (.string b.key) (.string b.val) (.int .i64 b.at_) (.slice sa n cap)) (.agg #[.string b.key, .string b.val, .int .i64 b.at_, .slice sa n cap]) b ∧ Below w.heap.size w (set4 wx R (.string b.key) (.string b.val) (.int .i64 b.at_) (.slice sa n cap)) := by
  have ht := set4_touch wx R (.string b.key) (.string b.val) (.int .i64 b.at_) (.slice sa n cap)
  have hts := ht.size
  refine ⟨set4_blk hX _ _ _ _, ⟨sa, n, cap, rfl, (ho.touch ht (fun q hq e => by omega)).mono (fun q hq => ⟨by omega, by omega⟩)⟩, hb.trans (ht.below hb.size (fun q hq e => by omega))⟩
set_option maxRecDepth 100000 in
set_option maxHeartbeats 4000000 in
theorem implMapDrop_any (k v : ByteArray) (a : Int) (ks : List Br) (key : ByteArray) (S : Nat → Prop) (kv : Value) (w : World) (hB : Brs S w kv ks) (hk : k.size ≤ maxLen) (hv : v.size ≤ maxLen) (hky : key.size ≤ 1048576) (ht : Tab w) :
    Calls Tryd.prog 21 #[.agg #[.string k, .string v, .int .i64 a, kv], .string key] w fun e w' => ∃ u, e = .returned (.tuple #[u, .int .i64 (mdOut (.mk k v a ks) key).2]) ∧ BrV w.heap.size w' u (mdOut (.mk k v a ks) key).1 ∧ Below w.heap.size w w' := by
  obtain ⟨sa, cap, rfl, hcap, hcm⟩ := hB.shape
  have B0 := hide ((Below.refl w.heap.size w).alloc (Nat.le_refl _) (.cells #[.string k, .string v, .int .i64 a, .slice sa ks.length cap] 37))
  have R0 := hide (Blk.new (w.alloc (.cells #[.string k, .string v, .int .i64 a, .slice sa ks.length cap] 37)) #[.string ⟨#[]⟩, .string ⟨#[]⟩, .int .i64 0, .slice none 0 0] 37 (w.heap.size + 1) (by simp))
  have B1 := hide ((unhide B0).alloc (unhide B0).size (.cells #[.string ⟨#[]⟩, .string ⟨#[]⟩, .int .i64 0, .slice none 0 0] 37))
  have HR := hide (openMap_any k v a ks key S _ _ ((hB.blw (unhide B0)).blw ((Below.refl _ _).alloc (Nat.le_refl _) (.cells #[.string ⟨#[]⟩, .string ⟨#[]⟩, .int .i64 0, .slice none 0 0] 37))) hk hv hky (ht.below (unhide B1)))
  have HT := hide ht
  have HRI := hide (fun o => mapV_rise (b := .mk k v a ks) (o := o))
  have HBR := hide (fun o => mapV_br (b := .mk k v a ks) (o := o))
  have HSZ := hide (show w.heap.size ≤ w.heap.size + 1 by omega)
  clear hB ht hk hv B0
  go_enter Tryd.func21, Tryd.ntmps21
  go_wp2_with fail
  generalize (w.alloc (.cells #[.string k, .string v, .int .i64 a, .slice sa ks.length cap] 37)).alloc (.cells #[.string ⟨#[]⟩, .string ⟨#[]⟩, .int .i64 0, .slice none 0 0] 37) = w1 at *
  generalize w.heap.size + 1 = rb at *
  refine (unhide HR).mono ?_
  rintro e w2 ⟨pv, c, rfl, hb, hcs⟩
  have B2 := hide ((unhide B1).trans (hb.mono (unhide B1).size))
  have R2 := hide ((unhide R0).below hb)
  have S1 := hide (And.intro (unhide R0).1 (And.intro (unhide B1).size hb.size))
  clear hb HR R0 B1
  rcases hcs with ⟨h1, h2, h3⟩ | ⟨h1, h2, h3, h4⟩ | ⟨h1, h2, o, h3, h4⟩
  · have HO : Hid (mdOut (.mk k v a ks) key = (brOf none, c)) := hide (by unfold mdOut; rw [if_neg h1, h2])
    have hcb : (c != 0) = true := by rw [h2]; simpa using h1
    clear h1 h2 h3
    have r0 := (unhide R2).cell 0 rfl
    have r1 := (unhide R2).cell 1 rfl
    have r2 := (unhide R2).cell 2 rfl
    have r3 := (unhide R2).cell 3 rfl
    have f0 := (unhide R2).fro 0
    have f1 := (unhide R2).fro 1
    have f2 := (unhide R2).fro 2
    have f3 := (unhide R2).fro 3
    have hE := end4b (b := brOf none) (m := rb + 1) (unhide R2) (unhide B2) (BrO.nil (fun x => rb + 1 ≤ x ∧ x < _) none 0 (by unfold maxLen; omega)) (unhide HSZ) (Nat.lt_succ_self _)
    have z0 := hE.1.cell 0 rfl
    have z1 := hE.1.cell 1 rfl
    have z2 := hE.1.cell 2 rfl
    have z3 := hE.1.cell 3 rfl
    have HE := hide hE
    unfold set4 at z0 z1 z2 z3
    dsimp only [brOf, Br.key, Br.val, Br.at_] at z0 z1 z2 z3
    clear hE
    go_wp2_with fail
    refine bodyPost_ret (v := .tuple #[.agg #[.string ⟨#[]⟩, .string ⟨#[]⟩, .int .i64 0, .slice none 0 0], .int .i64 c]) (by simp [results, Tryd.results21, go_sem, z0, z1, z2, z3]) rfl ?_
    exact ⟨_, by rw [unhide HO], by rw [unhide HO]; exact (unhide HE).2.1, (unhide HE).2.2⟩
  · have HO : Hid (mdOut (.mk k v a ks) key = (brOf none, 1)) := hide (by unfold mdOut; rw [if_pos h1, h2])
    subst h3
    clear h1 h2 h4
    have r0 := (unhide R2).cell 0 rfl
    have r1 := (unhide R2).cell 1 rfl
    have r2 := (unhide R2).cell 2 rfl
    have r3 := (unhide R2).cell 3 rfl
    have f0 := (unhide R2).fro 0
    have f1 := (unhide R2).fro 1
    have f2 := (unhide R2).fro 2
    have f3 := (unhide R2).fro 3
    have hE := end4b (b := brOf none) (m := rb + 1) (unhide R2) (unhide B2) (BrO.nil (fun x => rb + 1 ≤ x ∧ x < _) none 0 (by unfold maxLen; omega)) (unhide HSZ) (Nat.lt_succ_self _)
    have z0 := hE.1.cell 0 rfl
    have z1 := hE.1.cell 1 rfl
    have z2 := hE.1.cell 2 rfl
    have z3 := hE.1.cell 3 rfl
    have HE := hide hE
    unfold set4 at z0 z1 z2 z3
    dsimp only [brOf, Br.key, Br.val, Br.at_] at z0 z1 z2 z3
    clear hE
    go_wp2_with fail
    refine bodyPost_ret (v := .tuple #[.agg #[.string ⟨#[]⟩, .string ⟨#[]⟩, .int .i64 0, .slice none 0 0], .int .i64 1]) (by simp [results, Tryd.results21, go_sem, z0, z1, z2, z3]) rfl ?_
    exact ⟨_, by rw [unhide HO], by rw [unhide HO]; exact (unhide HE).2.1, (unhide HE).2.2⟩
  · have hk24 := (txC_key h1).2
    have HFD := hide (find_any key hk24 w2 _ pv o h4 (unhide HRI o h3) ((unhide HT).below (unhide B2)))
    have HRO := hide (unhide HRI o h3)
    have HOK := hide (unhide HBR o h3).2
    have HPM := hide h4
    have HO : Hid (mdOut (.mk k v a ks) key = mdO o key) := hide (by unfold mdOut; rw [if_pos h1, h3])
    subst h2
    clear h1 h3 h4 HRI HBR
    go_wp2_with fail
    refine (unhide HFD).mono ?_
    rintro e w3 ⟨qv, rfl, hb3, hq⟩
    have B3 := hide ((unhide B2).trans (hb3.mono (unhide B2).size))
    have R3 := hide ((unhide R2).below hb3)
    have P3 := hide ((unhide HPM).blw hb3)
    clear hb3 HFD HPM
    rcases hq with ⟨hq1, hq2⟩ | ⟨t, q, hq1, hq2, hq3, hq4⟩
    · have HO5 : Hid (mdOut (.mk k v a ks) key = (brOf none, 5)) := hide (by
        rw [unhide HO]
        cases o with
        | none => rfl
        | some t => unfold mdO; dsimp only; rw [if_neg (hq2 t rfl)])
      subst hq1
      clear hq2 HO
      have r0 := (unhide R3).cell 0 rfl
      have r1 := (unhide R3).cell 1 rfl
      have r2 := (unhide R3).cell 2 rfl
      have r3 := (unhide R3).cell 3 rfl
      have f0 := (unhide R3).fro 0
      have f1 := (unhide R3).fro 1
      have f2 := (unhide R3).fro 2
      have f3 := (unhide R3).fro 3
      have hE := end4b (b := brOf none) (m := rb + 1) (unhide R3) (unhide B3) (BrO.nil (fun x => rb + 1 ≤ x ∧ x < _) none 0 (by unfold maxLen; omega)) (unhide HSZ) (Nat.lt_succ_self _)
      have z0 := hE.1.cell 0 rfl
      have z1 := hE.1.cell 1 rfl
      have z2 := hE.1.cell 2 rfl
      have z3 := hE.1.cell 3 rfl
      have HE := hide hE
      unfold set4 at z0 z1 z2 z3
      dsimp only [brOf, Br.key, Br.val, Br.at_] at z0 z1 z2 z3
      clear hE
      go_wp2_with fail
      refine bodyPost_ret (v := .tuple #[.agg #[.string ⟨#[]⟩, .string ⟨#[]⟩, .int .i64 0, .slice none 0 0], .int .i64 5]) (by simp [results, Tryd.results21, go_sem, z0, z1, z2, z3]) rfl ?_
      exact ⟨_, by rw [unhide HO5], by rw [unhide HO5]; exact (unhide HE).2.1, (unhide HE).2.2⟩
    · subst hq1
      subst hq3
      have HO0 : Hid (mdOut (.mk k v a ks) key = (brOf (dropT (kh key) t), 0)) := hide (by
        rw [unhide HO]
        unfold mdO
        dsimp only
        rw [if_pos hq2])
      have x2 := hq4.cell 2 rfl
      obtain ⟨p, rfl, hn⟩ := unhide P3
      have HW := hide (without_any (kh key) (kh_size (by omega)) t 0 w3 _ p hn (unhide HRO))
      have HDO := hide (dropT_ok (kh key) t (unhide HOK))
      clear hq2 hq4 hn P3 HO
      generalize dropT (kh key) t = D at *
      generalize kh key = h at *
      go_wp2_with fail
      refine (unhide HW).mono ?_
      rintro e w4 ⟨pv4, rfl, hp4, hT4⟩
      have B4 := hide ((unhide B3).trans (hT4.below (B := w.heap.size) (unhide B3).size (fun b hb e => by have := (unhide S1).2.1; omega)))
      have R4 := hide ((unhide R3).kept hT4 (fun e => by have := (unhide S1).1; omega))
      have HBC : Hid (Calls Tryd.prog 55 #[.pointer pv4] w4 fun e w' => BranchR (brOf D) w4 e w') := hide (by
        cases D with
        | none =>
          obtain rfl : pv4 = none := hp4
          exact branch_nil w4
        | some t' =>
          obtain ⟨q', rfl, hn'⟩ := hp4
          exact branch_any hn' (unhide HDO) w4 (Below.refl _ _))
      clear hp4 hT4 HW B3 R3 x2
      go_wp2_with fail
      refine (unhide HBC).mono ?_
      rintro e w5 ⟨sa5, n5, c5, rfl, hO5, hb5⟩
      have R5 := hide ((unhide R4).below hb5)
      have B5 := hide ((unhide B4).trans (hb5.mono (unhide B4).size))
      have hE := end4b (unhide R5) (unhide B5) hO5 (unhide HSZ) (unhide R4).1
      clear hb5 hO5 HBC B4
      have r0 := (unhide R5).cell 0 rfl
      have r1 := (unhide R5).cell 1 rfl
      have r2 := (unhide R5).cell 2 rfl
      have r3 := (unhide R5).cell 3 rfl
      have f0 := (unhide R5).fro 0
      have f1 := (unhide R5).fro 1
      have f2 := (unhide R5).fro 2
      have f3 := (unhide R5).fro 3
      have z0 := hE.1.cell 0 rfl
      have z1 := hE.1.cell 1 rfl
      have z2 := hE.1.cell 2 rfl
      have z3 := hE.1.cell 3 rfl
      have HE := hide hE
      unfold set4 at z0 z1 z2 z3
      clear hE
      go_wp2_with fail
      refine bodyPost_ret (v := .tuple #[.agg #[.string (brOf D).key, .string (brOf D).val, .int .i64 (brOf D).at_, .slice sa5 n5 c5], .int .i64 0]) (by simp [results, Tryd.results21, go_sem, z0, z1, z2, z3]) rfl ?_
      exact ⟨_, by rw [unhide HO0], by rw [unhide HO0]; exact (unhide HE).2.1, (unhide HE).2.2⟩
end Go.Proofs.YtcmdilmjdnbfkaaDoor.Sha
