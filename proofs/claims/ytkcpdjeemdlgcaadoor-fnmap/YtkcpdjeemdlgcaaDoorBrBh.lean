/- (*mapNode).branch: a map's nodes written as branches of the call's own. -/
import Derived.Test.YtkcpdjeemdlgcaaDoorBrV
import Derived.Test.YtkcpdjeemdlgcaaDoorSet4
import Derived.Test.YtkcpdjeemdlgcaaDoorBrO
import Derived.Deep.RegionHeldLaw
import Derived.Deep.AppendLies
namespace Go.Proofs.YtkcpdjeemdlgcaaDoor.Sha
open Go.ChangeShapes Go.WideShapes Go.ChangeAt Go.RowKit
set_option linter.unusedVariables false
set_option linter.unusedSimpArgs false

/-- What branch answers. -/
def BranchR (b : Br) (w : World) (e : Ending) (w' : World) : Prop := ∃ sa n cap, e = .returned (.agg #[.string b.key, .string b.val, .int .i64 b.at_, .slice sa n cap]) ∧ BrO w' (fun x => w.heap.size ≤ x ∧ x < w'.heap.size) (.slice sa n cap) b.kids ∧ Below w.heap.size w w'
theorem toBr_small {t : Tr} (h : TrOK t) : t.toBr.key.size ≤ maxLen ∧ t.toBr.val.size ≤ maxLen := by
  cases t with
  | leaf k v =>
    have h1 := (okK_iff.1 h.1).2
    have h2 : v.size ≤ 60 := h.2
    simp only [Tr.toBr, Br.key, Br.val]
    unfold maxLen
    omega
  | fork a hh l r =>
    simp only [Tr.toBr, Br.key, Br.val]
    unfold maxLen
    simp [ByteArray.size]
/-- Two branches in a new block, each with slices of its own. -/
theorem BrO.two {w : World} {m0 m1 : Nat} {b0 b1 : Br} {v0 v1 : Value} (h0 : BrO w (fun x => m0 ≤ x ∧ x < m1) v0 b0.kids) (h1 : BrO w (fun x => m1 ≤ x ∧ x < w.heap.size) v1 b1.kids) (hm : m0 ≤ m1) (hm2 : m1 ≤ w.heap.size)
    (z0 : b0.key.size ≤ maxLen ∧ b0.val.size ≤ maxLen) (z1 : b1.key.size ≤ maxLen ∧ b1.val.size ≤ maxLen) :
    BrO (w.alloc (.cells #[.string b0.key, .string b0.val, .int .i64 b0.at_, v0, .string b1.key, .string b1.val, .int .i64 b1.at_, v1] 27)) (fun x => m0 ≤ x ∧ x < w.heap.size + 1) (.slice (some ⟨w.heap.size, 0, none⟩) 2 2) [b0, b1] := by
  have BB := (Below.refl w.heap.size w).alloc (Nat.le_refl _) (.cells #[.string b0.key, .string b0.val, .int .i64 b0.at_, v0, .string b1.key, .string b1.val, .int .i64 b1.at_, v1] 27)
  have hrow := World.ownsRow_lit (base := 0) (e := 27) (size := 4) w #[.string b0.key, .string b0.val, .int .i64 b0.at_, v0, .string b1.key, .string b1.val, .int .i64 b1.at_, v1] 2 (Nat.zero_le _) (by unfold maxLen; omega) rfl
  refine BrO.row _ w.heap.size 2 [b0, b1] (fun i => if i = 0 then v0 else v1) _ (fun i x => if i = 0 then m0 ≤ x ∧ x < m1 else m1 ≤ x ∧ x < w.heap.size) (by simp) ⟨by omega, by omega⟩ hrow ?_ ?_ ?_ ?_ ?_
  · intro i hi
    have hi2 : i < 2 := hi
    rcases (show i = 0 ∨ i = 1 by omega) with rfl | rfl
    · exact ⟨rfl, rfl, rfl, rfl⟩
    · exact ⟨rfl, rfl, rfl, rfl⟩
  · intro i hi
    have hi2 : i < 2 := hi
    rcases (show i = 0 ∨ i = 1 by omega) with rfl | rfl
    · exact z0
    · exact z1
  · intro i b hi hb
    have hi2 : i < 2 := hi
    rcases (show i = 0 ∨ i = 1 by omega) with rfl | rfl
    · rw [if_pos rfl] at hb; omega
    · rw [if_neg (by omega)] at hb; omega
  · intro i j b hij hj hb hb2
    have hj2 : j < 2 := hj
    obtain rfl : i = 0 := by omega
    obtain rfl : j = 1 := by omega
    rw [if_pos rfl] at hb
    rw [if_neg (by omega)] at hb2
    omega
  · intro i hi
    have hi2 : i < 2 := hi
    rcases (show i = 0 ∨ i = 1 by omega) with rfl | rfl
    · exact h0.blw BB
    · exact h1.blw BB
set_option maxRecDepth 100000 in
set_option maxHeartbeats 4000000 in
theorem branch_any {w0 : World} {S : Nat → Prop} {p : Nat} {t : Tr} (h : Nd w0 S p t) : TrOK t → ∀ w, Below w0.heap.size w0 w →
    Calls Tryd.prog 33 #[.pointer (some ⟨p, 0, none⟩)] w fun e w' => BranchR t.toBr w e w' := by
  induction h with
  | leaf S p k v hS hb =>
    intro hok w hb0
    have BB := (Below.refl w.heap.size w).alloc (Nat.le_refl _) (.cells #[.string ⟨#[]⟩, .string ⟨#[]⟩, .int .i64 0, .slice none 0 0] 27)
    have R1 := hide (Blk.new w #[.string ⟨#[]⟩, .string ⟨#[]⟩, .int .i64 0, .slice none 0 0] 27 w.heap.size rfl)
    have X1 := hide ((hb.below hb0).below BB)
    have B1 := hide BB
    have HGR : Hid (∀ w', Below w.heap.size w w' → BranchR (Tr.leaf k v).toBr w (.returned (.agg #[.string k, .string v, .int .i64 256, .slice none 0 0])) w') := hide (fun w' hb => ⟨none, 0, 0, rfl, .nil _ _ _ (by unfold maxLen; omega), hb⟩)
    clear hb hb0 hok BB
    go_enter Tryd.func33, Tryd.ntmps33
    have x0 := (unhide X1).cell 0 rfl
    have x1 := (unhide X1).cell 1 rfl
    have x3 := (unhide X1).cell 3 rfl
    go_upto_region 4 with fail
    generalize w.alloc (.cells #[.string ⟨#[]⟩, .string ⟨#[]⟩, .int .i64 0, .slice none 0 0] 27) = w1 at *
    generalize hR : w.heap.size = R at *
    have HRW := hide hR
    clear hR
    have r0 := (unhide R1).cell 0 rfl
    have r1 := (unhide R1).cell 1 rfl
    have r2 := (unhide R1).cell 2 rfl
    have r3 := (unhide R1).cell 3 rfl
    have f0 := (unhide R1).fro 0
    have f1 := (unhide R1).fro 1
    have f2 := (unhide R1).fro 2
    have f3 := (unhide R1).fro 3
    have R2 := set4_blk (unhide R1) (.string k) (.string v) (.int .i64 256) (.slice none 0 0)
    have z0 : (set4 w1 R (.string k) (.string v) (.int .i64 256) (.slice none 0 0)).drew.cell? ⟨R, 0, none⟩ = some (.string k) := R2.cell 0 rfl
    have z1 : (set4 w1 R (.string k) (.string v) (.int .i64 256) (.slice none 0 0)).drew.cell? ⟨R, 1, none⟩ = some (.string v) := R2.cell 1 rfl
    have z2 : (set4 w1 R (.string k) (.string v) (.int .i64 256) (.slice none 0 0)).drew.cell? ⟨R, 2, none⟩ = some (.int .i64 256) := R2.cell 2 rfl
    have z3 : (set4 w1 R (.string k) (.string v) (.int .i64 256) (.slice none 0 0)).drew.cell? ⟨R, 3, none⟩ = some (.slice none 0 0) := R2.cell 3 rfl
    unfold set4 at z0 z1 z2 z3
    have B2 := hide (below_drewN ((unhide B1).trans ((set4_touch w1 R (.string k) (.string v) (.int .i64 256) (.slice none 0 0)).below (B := R) (Nat.le_of_lt (unhide R1).1) (fun b hb e => by omega))) 1)
    clear R2
    go_wp2_with fail
    go_big_region
    go_wp2_with fail
    refine bodyPost_ret (v := .agg #[.string k, .string v, .int .i64 256, .slice none 0 0]) (by simp [results, Tryd.results33, go_sem, z0, z1, z2, z3]) rfl ?_
    exact unhide HGR _ (unhide B2)
  | fork S Sl Sr p a hh l r pl pr hS h1 h2 h3 hb hl hr ihl ihr =>
    intro hok w hb0
    obtain ⟨ha, _, okl, okr⟩ := hok
    have BB := (Below.refl w.heap.size w).alloc (Nat.le_refl _) (.cells #[.string ⟨#[]⟩, .string ⟨#[]⟩, .int .i64 0, .slice none 0 0] 27)
    have R1 := hide (Blk.new w #[.string ⟨#[]⟩, .string ⟨#[]⟩, .int .i64 0, .slice none 0 0] 27 w.heap.size rfl)
    have X1 := hide ((hb.below hb0).below BB)
    have B1 := hide BB
    have HL := hide (fun wx (hx : Below w.heap.size w wx) => ihl okl wx (hb0.trans (hx.mono hb0.size)))
    have HR := hide (fun wx (hx : Below w.heap.size w wx) => ihr okr wx (hb0.trans (hx.mono hb0.size)))
    have HGR : Hid (∀ sa n cap w', BrO w' (fun x => w.heap.size ≤ x ∧ x < w'.heap.size) (.slice sa n cap) [l.toBr, r.toBr] → Below w.heap.size w w' → BranchR (Tr.fork a hh l r).toBr w (.returned (.agg #[.string ⟨#[]⟩, .string ⟨#[]⟩, .int .i64 a, .slice sa n cap])) w') := hide (fun sa n cap w' h1 hb => ⟨sa, n, cap, rfl, h1, hb⟩)
    have HZL := hide (toBr_small okl)
    have HZR := hide (toBr_small okr)
    have hab : ((a : Int) == 256) = false := by rw [beq_eq_false_iff_ne]; omega
    have hsz : (w.alloc (.cells #[.string ⟨#[]⟩, .string ⟨#[]⟩, .int .i64 0, .slice none 0 0] 27)).heap.size = w.heap.size + 1 := by simp
    have hpR : p < w.heap.size := Nat.lt_of_lt_of_le hb.1 hb0.size
    clear hb hb0 ihl ihr hl hr h1 h2 h3 BB
    have x3 := (unhide X1).cell 3 rfl
    have x4 := (unhide X1).cell 4 rfl
    have x5 := (unhide X1).cell 5 rfl
    have hX := (unhide X1).1
    go_enter Tryd.func33, Tryd.ntmps33
    go_upto_region 5 with fail
    generalize w.alloc (.cells #[.string ⟨#[]⟩, .string ⟨#[]⟩, .int .i64 0, .slice none 0 0] 27) = w1 at *
    have HL1 := hide (unhide HL w1.drew (below_drewN (unhide B1) 1))
    have HSX := hide (fun wx (hx : Touch (fun b => w.heap.size ≤ b) w1 wx) => show wx.cell? ⟨p, 3, none⟩ = some (.int .i64 a) ∧ wx.cell? ⟨p, 4, none⟩ = some (.pointer (some ⟨pl, 0, none⟩)) ∧ wx.cell? ⟨p, 5, none⟩ = some (.pointer (some ⟨pr, 0, none⟩)) from
      ⟨(hx.cell (p := ⟨p, 3, none⟩) hX (by simp; omega)).trans x3, (hx.cell (p := ⟨p, 4, none⟩) hX (by simp; omega)).trans x4, (hx.cell (p := ⟨p, 5, none⟩) hX (by simp; omega)).trans x5⟩)
    have HE : Hid (∀ (w2 w3 : World) (s1 : Option Addr) (n1 c1 : Nat) (s2 : Option Addr) (n2 c2 : Nat), BrO w2 (fun x => w1.heap.size ≤ x ∧ x < w2.heap.size) (.slice s1 n1 c1) l.toBr.kids → BrO w3 (fun x => w2.heap.size ≤ x ∧ x < w3.heap.size) (.slice s2 n2 c2) r.toBr.kids → Below w1.heap.size w1 w2 → Below w2.heap.size w2 w3 →
        Blk (set4 (w3.alloc (.cells #[.string l.toBr.key, .string l.toBr.val, .int .i64 l.toBr.at_, .slice s1 n1 c1, .string r.toBr.key, .string r.toBr.val, .int .i64 r.toBr.at_, .slice s2 n2 c2] 27)) w.heap.size (.string ⟨#[]⟩) (.string ⟨#[]⟩) (.int .i64 a) (.slice (some ⟨w3.heap.size, 0, none⟩) 2 2)) w.heap.size [.string ⟨#[]⟩, .string ⟨#[]⟩, .int .i64 a, .slice (some ⟨w3.heap.size, 0, none⟩) 2 2] ∧
        BrO (set4 (w3.alloc (.cells #[.string l.toBr.key, .string l.toBr.val, .int .i64 l.toBr.at_, .slice s1 n1 c1, .string r.toBr.key, .string r.toBr.val, .int .i64 r.toBr.at_, .slice s2 n2 c2] 27)) w.heap.size (.string ⟨#[]⟩) (.string ⟨#[]⟩) (.int .i64 a) (.slice (some ⟨w3.heap.size, 0, none⟩) 2 2)) (fun x => w.heap.size ≤ x ∧ x < (set4 (w3.alloc (.cells #[.string l.toBr.key, .string l.toBr.val, .int .i64 l.toBr.at_, .slice s1 n1 c1, .string r.toBr.key, .string r.toBr.val, .int .i64 r.toBr.at_, .slice s2 n2 c2] 27)) w.heap.size (.string ⟨#[]⟩) (.string ⟨#[]⟩) (.int .i64 a) (.slice (some ⟨w3.heap.size, 0, none⟩) 2 2)).heap.size) (.slice (some ⟨w3.heap.size, 0, none⟩) 2 2) [l.toBr, r.toBr] ∧
        Below w.heap.size w (set4 (w3.alloc (.cells #[.string l.toBr.key, .string l.toBr.val, .int .i64 l.toBr.at_, .slice s1 n1 c1, .string r.toBr.key, .string r.toBr.val, .int .i64 r.toBr.at_, .slice s2 n2 c2] 27)) w.heap.size (.string ⟨#[]⟩) (.string ⟨#[]⟩) (.int .i64 a) (.slice (some ⟨w3.heap.size, 0, none⟩) 2 2))) := hide (fun w2 w3 s1 n1 c1 s2 n2 c2 h1 h2 hb2 hb3 => by
      have hz2 := hb2.size
      have hz3 := hb3.size
      have ht := set4_touch (w3.alloc (.cells #[.string l.toBr.key, .string l.toBr.val, .int .i64 l.toBr.at_, .slice s1 n1 c1, .string r.toBr.key, .string r.toBr.val, .int .i64 r.toBr.at_, .slice s2 n2 c2] 27)) w.heap.size (.string ⟨#[]⟩) (.string ⟨#[]⟩) (.int .i64 a) (.slice (some ⟨w3.heap.size, 0, none⟩) 2 2)
      have ho := BrO.two (h1.blw hb3) h2 hz2 hz3 (unhide HZL) (unhide HZR)
      have hal : (w3.alloc (.cells #[.string l.toBr.key, .string l.toBr.val, .int .i64 l.toBr.at_, .slice s1 n1 c1, .string r.toBr.key, .string r.toBr.val, .int .i64 r.toBr.at_, .slice s2 n2 c2] 27)).heap.size = w3.heap.size + 1 := by simp
      have hts := ht.size
      refine ⟨set4_blk ((((unhide R1).below hb2).below hb3).alloc (.cells #[.string l.toBr.key, .string l.toBr.val, .int .i64 l.toBr.at_, .slice s1 n1 c1, .string r.toBr.key, .string r.toBr.val, .int .i64 r.toBr.at_, .slice s2 n2 c2] 27)) _ _ _ _, (ho.touch ht (fun b hb e => by omega)).mono (fun b hb => ⟨by omega, by omega⟩), ?_⟩
      have hb4 : Below w.heap.size w (w3.alloc (.cells #[.string l.toBr.key, .string l.toBr.val, .int .i64 l.toBr.at_, .slice s1 n1 c1, .string r.toBr.key, .string r.toBr.val, .int .i64 r.toBr.at_, .slice s2 n2 c2] 27)) := (((unhide B1).trans (hb2.mono (by omega))).trans (hb3.mono (by omega))).alloc (by omega) (.cells #[.string l.toBr.key, .string l.toBr.val, .int .i64 l.toBr.at_, .slice s1 n1 c1, .string r.toBr.key, .string r.toBr.val, .int .i64 r.toBr.at_, .slice s2 n2 c2] 27)
      exact hb4.trans (ht.below (by omega) (fun b hb e => by omega)))
    have hz1 := hsz
    go_wp2_with fail
    go_region_held3 (fun wx => wx.cell? ⟨p, 3, none⟩ = some (.int .i64 a) ∧ wx.cell? ⟨p, 4, none⟩ = some (.pointer (some ⟨pl, 0, none⟩)) ∧ wx.cell? ⟨p, 5, none⟩ = some (.pointer (some ⟨pr, 0, none⟩)))
      (first | exact unhide HSX _ T5 | exact unhide HSX _ T4 | exact unhide HSX _ T3 | exact unhide HSX _ T2 | go_keep)
      (first
        | (go_at_call 33; refine (unhide HR w2 hb2w).mono ?_; rintro e w3 ⟨s2, n2, c2, rfl, hO3, hb3⟩; have R4 := ((((unhide R1).below hb2).below hb3).alloc (.cells #[.string l.toBr.key, .string l.toBr.val, .int .i64 l.toBr.at_, .slice s1 n1 c1, .string r.toBr.key, .string r.toBr.val, .int .i64 r.toBr.at_, .slice s2 n2 c2] 27)); have r0 := R4.cell 0 rfl; have r1 := R4.cell 1 rfl; have r2 := R4.cell 2 rfl; have r3 := R4.cell 3 rfl; have f0 := R4.fro 0; have f1 := R4.fro 1; have f2 := R4.fro 2; have f3 := R4.fro 3; have T3 : Touch (fun b => w.heap.size ≤ b) w1 w3 := T2.trans (T' := fun b => w.heap.size ≤ b) (Touch.ofBelow hb3) (fun _ _ h => h); have T4 : Touch (fun b => w.heap.size ≤ b) w1 (w3.alloc (.cells #[.string l.toBr.key, .string l.toBr.val, .int .i64 l.toBr.at_, .slice s1 n1 c1, .string r.toBr.key, .string r.toBr.val, .int .i64 r.toBr.at_, .slice s2 n2 c2] 27)) := T3.alloc (.cells #[.string l.toBr.key, .string l.toBr.val, .int .i64 l.toBr.at_, .slice s1 n1 c1, .string r.toBr.key, .string r.toBr.val, .int .i64 r.toBr.at_, .slice s2 n2 c2] 27); have T5 := T4.trans (set4_touch (w3.alloc (.cells #[.string l.toBr.key, .string l.toBr.val, .int .i64 l.toBr.at_, .slice s1 n1 c1, .string r.toBr.key, .string r.toBr.val, .int .i64 r.toBr.at_, .slice s2 n2 c2] 27)) w.heap.size (.string ⟨#[]⟩) (.string ⟨#[]⟩) (.int .i64 a) (.slice (some ⟨w3.heap.size, 0, none⟩) 2 2)) (fun b _ e => by omega))
        | (go_at_call 33; refine (unhide HL1).mono ?_; rintro e w2 ⟨s1, n1, c1, rfl, hO2, hb2'⟩; have hb2 : Below w1.heap.size w1 w2 := (below_drewN (Below.refl _ w1) 1).trans hb2'; have hb2w := (unhide B1).trans (hb2.mono (unhide B1).size); have T2 : Touch (fun b => w.heap.size ≤ b) w1 w2 := Touch.ofBelow hb2))
    all_goals
      have hE := unhide HE w2 w3 s1 n1 c1 s2 n2 c2 hO2 hO3 hb2 hb3
      have z0 := hE.1.cell 0 rfl
      have z1 := hE.1.cell 1 rfl
      have z2 := hE.1.cell 2 rfl
      have z3 := hE.1.cell 3 rfl
      have HEN := hide hE
      unfold set4 at z0 z1 z2 z3
      clear hE r0 r1 r2 r3 f0 f1 f2 f3 R4 T2 T3 T4 T5 hO2 hO3 hb2 hb3 hb2' hb2w x3 x4 x5 HE
      go_wp2_with fail
      refine bodyPost_ret (v := .agg #[.string ⟨#[]⟩, .string ⟨#[]⟩, .int .i64 a, .slice (some ⟨w3.heap.size, 0, none⟩) 2 2]) (by simp [results, Tryd.results33, go_sem, z0, z1, z2, z3]) rfl ?_
      exact unhide HGR _ _ _ _ (unhide HEN).2.1 (unhide HEN).2.2
end Go.Proofs.YtkcpdjeemdlgcaaDoor.Sha
