/- find, openMap; impl.MapGet. Four stores into a box. (*mapNode).branch: a map's nodes written as branches of the call's own. (*mapNode).without: the map without the leaf that a hash's bits lead to. impl.MapDrop. The leaves of a map, ranged over as a function: visit, leaves, size. A leaf put into a map, pure; newFork over a map; (*mapNode).with. (*mapNode).with. (*mapNode).put; a map's size, its pointer nil or not; hashes that part at no bit are one. The writer's numbers: each in so many bytes, the higher ones first. The writer: a string's bytes, numbers in a list of the call's own. The writer's texts. The writer's raw bytes. The hash of a log: treeHash, l06Tree; TreeHash. A region that draws its order, in the body of a range over a function. impl.(*book).snapshot. -/
import Derived.Test.YtgmaappilopgbaaDoorBrU
import Derived.Test.YtgmaappilopgbaaDoorBlk
import Derived.Test.YtgmaappilopgbaaDoorBrO
import Derived.Deep.RegionHeldLaw
import Derived.Deep.AppendLies
import Derived.RangeFuncNested
import Derived.RangeFuncBound
import Derived.RangeFuncCalls
import Derived.RangeFuncLeaves
import Derived.RangeFuncFrom
import Derived.Shelf.Abstract
import Derived.Shelf.RegionOpen
import Derived.WalkKit
import Derived.OwnWalkIn
import Derived.TacticsInMore
import Derived.LoopNIn
import Derived.LoopIn
import Derived.Deep.RegionLaw
import Derived.Deep.QuietTactic
import Derived.BigQuiet
import Derived.Deep.DeepCutAuto
import Derived.Test.YtgmaappilopgbaaDoorWr
import Derived.WalkSpells
import Derived.Test.YtgmaappilopgbaaDoorWrS
import Derived.Test.YtgmaappilopgbaaDoorMkA
import Derived.Test.YtgmaappilopgbaaDoorMkH
import Derived.RangeFuncWrites
import Derived.Test.YtgmaappilopgbaaDoorLeI
namespace Go.Proofs.YtgmaappilopgbaaDoor.Sha
open Go.ChangeShapes Go.WideShapes Go.ChangeAt Go.RowKit
set_option linter.unusedVariables false
set_option linter.unusedSimpArgs false

/-- What find answers: the leaf of the key, or nil. -/
def FindR (o : Option Tr) (key : ByteArray) (w : World) (e : Ending) (w' : World) : Prop := ∃ qv, e = .returned (.pointer qv) ∧ Below w.heap.size w w' ∧
  ((qv = none ∧ ∀ t, o = some t → (leadL (kh key) t).1 ≠ key) ∨ ∃ t q, o = some t ∧ (leadL (kh key) t).1 = key ∧ qv = some ⟨q, 0, none⟩ ∧ Blk w' q (lfC key (leadL (kh key) t).2))
/-- What openMap answers. -/
def OpenR (b : Br) (key : ByteArray) (w : World) (e : Ending) (w' : World) : Prop := ∃ pv c, e = .returned (.tuple #[.pointer pv, .int .i64 c]) ∧ Below w.heap.size w w' ∧
  ((txC key.size 1 24 ≠ 0 ∧ c = txC key.size 1 24 ∧ pv = none) ∨ (txC key.size 1 24 = 0 ∧ mapV b = none ∧ c = 1 ∧ pv = none) ∨ (txC key.size 1 24 = 0 ∧ c = 0 ∧ ∃ o, mapV b = some o ∧ PtrM w' (fun x => w.heap.size ≤ x ∧ x < w'.heap.size) pv o))
set_option maxRecDepth 100000 in
set_option maxHeartbeats 1000000 in
theorem openMap_any (k v : ByteArray) (a : Int) (ks : List Br) (key : ByteArray) (S : Nat → Prop) (kv : Value) (w : World) (hB : Brs S w kv ks) (hk : k.size ≤ maxLen) (hv : v.size ≤ maxLen) (hky : key.size ≤ 1048576) (ht : Tab w) :
    Calls Tryd.prog 37 #[.agg #[.string k, .string v, .int .i64 a, kv], .string key] w fun e w' => OpenR (.mk k v a ks) key w e w' := by
  obtain ⟨sa, cap, rfl, hcap, hcm⟩ := hB.shape
  have B0 := hide ((Below.refl w.heap.size w).alloc (Nat.le_refl _) (.cells #[.string k, .string v, .int .i64 a, .slice sa ks.length cap] 28))
  have HR := hide (readMap_any k v a ks S _ _ (hB.blw (unhide B0)) hk hv (ht.below (unhide B0)))
  have HF := hide (fun wx => keyFault_any key wx (by unfold maxLen; omega))
  have HM := hide (mapB_V (.mk k v a ks))
  have HC := hide (txC_cases key.size 1 24)
  have HO : Hid (∀ pv c w', Below w.heap.size w w' → ((txC key.size 1 24 ≠ 0 ∧ c = txC key.size 1 24 ∧ pv = none) ∨ (txC key.size 1 24 = 0 ∧ mapV (.mk k v a ks) = none ∧ c = 1 ∧ pv = none) ∨ (txC key.size 1 24 = 0 ∧ c = 0 ∧ ∃ o, mapV (.mk k v a ks) = some o ∧ PtrM w' (fun x => w.heap.size ≤ x ∧ x < w'.heap.size) pv o)) → OpenR (.mk k v a ks) key w (.returned (.tuple #[.pointer pv, .int .i64 c])) w') := hide (fun pv c w' hb h => ⟨pv, c, rfl, hb, h⟩)
  have hz0 : w.heap.size ≤ (w.alloc (.cells #[.string k, .string v, .int .i64 a, .slice sa ks.length cap] 28)).heap.size := (unhide B0).size
  clear hB ht hk hv
  generalize txC key.size 1 24 = c at *
  go_enter Tryd.func37, Tryd.ntmps37
  go_wp2_with fail
  refine (unhide HF _).mono ?_
  rintro e w9 ⟨rfl, hw9⟩
  subst w9
  by_cases hc : c = 0
  case neg =>
    have hcb : (c != 0) = true := by simpa using hc
    have HCN := hide hc
    clear hc
    go_wp2_with fail
    go_ret2
    exact unhide HO none c _ (unhide B0) (.inl ⟨unhide HCN, rfl, rfl⟩)
  subst hc
  go_wp2_with fail
  refine (unhide HR).mono ?_
  rintro e w2 ⟨pv, rfl, hb, hpm⟩
  have B2 := hide ((unhide B0).trans (hb.mono (unhide B0).size))
  have HP := hide hpm
  clear hb HR hpm
  rw [unhide HM]
  cases hmv : mapV (.mk k v a ks) with
  | none =>
    rw [hmv] at HO HP
    have HPN := hide (show pv = none from unhide HP)
    clear hmv HP
    rw [show (none : Option (Option Tr)).isSome = false from rfl]
    go_wp2_with fail
    go_ret2
    exact unhide HO none 1 w2 (unhide B2) (.inr (.inl ⟨by simp, by simp, by simp, by simp⟩))
  | some o =>
    rw [hmv] at HO HP
    clear hmv
    rw [show (some o).isSome = true from rfl]
    go_wp2_with fail
    go_ret2
    refine unhide HO pv 0 w2 (unhide B2) (.inr (.inr ⟨by simp, by simp, o, by simp, ?_⟩))
    have hp := unhide HP
    cases o with
    | none => exact hp
    | some t => obtain ⟨p, h1, h2⟩ := hp; exact ⟨p, h1, h2.mono (fun x hx => ⟨Nat.le_trans hz0 hx.1, hx.2⟩)⟩
/-- The value at a key. -/
def getV (o : Option Tr) (key : ByteArray) : Option ByteArray := match o with
  | none => none
  | some t => if (leadL (kh key) t).1 = key then some (leadL (kh key) t).2 else none
--FI
end Go.Proofs.YtgmaappilopgbaaDoor.Sha
namespace Go.Proofs.YtgmaappilopgbaaDoor.Sha
open Go.ChangeShapes Go.WideShapes Go.ChangeAt Go.RowKit
set_option linter.unusedVariables false

def set4 (w : World) (R : Nat) (a b c d : Value) : World := (((w.setCell ⟨R, 0, none⟩ a).setCell ⟨R, 1, none⟩ b).setCell ⟨R, 2, none⟩ c).setCell ⟨R, 3, none⟩ d
theorem set4_touch (w : World) (R : Nat) (a b c d : Value) : Touch (fun x => x = R) w (set4 w R a b c d) :=
  ((((Touch.refl (fun x => x = R) w).setCell ⟨R, 0, none⟩ a (fun _ => rfl)).setCell ⟨R, 1, none⟩ b (fun _ => rfl)).setCell ⟨R, 2, none⟩ c (fun _ => rfl)).setCell ⟨R, 3, none⟩ d (fun _ => rfl)
theorem set4_blk {w : World} {R : Nat} {x0 x1 x2 x3 : Value} (h : Blk w R [x0, x1, x2, x3]) (a b c d : Value) : Blk (set4 w R a b c d) R [a, b, c, d] :=
  (((h.set 0 a (by simp)).set 1 b (by simp)).set 2 c (by simp)).set 3 d (by simp)
end Go.Proofs.YtgmaappilopgbaaDoor.Sha
namespace Go.Proofs.YtgmaappilopgbaaDoor.Sha
open Go.ChangeShapes Go.WideShapes Go.ChangeAt Go.RowKit
set_option linter.unusedVariables false
set_option linter.unusedSimpArgs false

/-- What branch answers. -/
def BranchR (b : Br) (w : World) (e : Ending) (w' : World) : Prop := ∃ sa n cap, e = .returned (.agg #[.string b.key, .string b.val, .int .i64 b.at_, .slice sa n cap]) ∧ BrO w' (fun x => w.heap.size ≤ x ∧ x < w'.heap.size) (.slice sa n cap) b.kids ∧ Below w.heap.size w w'
theorem toBr_small {t : Tr} (h : TrOK t) : t.toBr.key.size ≤ maxLen ∧ t.toBr.val.size ≤ maxLen := by
  cases t with
  | leaf k v =>
    have h1 := (okK_iff.1 h.1).2
    have h2 : v.size ≤ 60 := h.2
    simp only [Tr.toBr, Br.key, Br.val]
    unfold maxLen
    omega
  | fork a hh l r =>
    simp only [Tr.toBr, Br.key, Br.val]
    unfold maxLen
    simp [ByteArray.size]
/-- Two branches in a new block, each with slices of its own. -/
theorem BrO.two {w : World} {m0 m1 : Nat} {b0 b1 : Br} {v0 v1 : Value} (h0 : BrO w (fun x => m0 ≤ x ∧ x < m1) v0 b0.kids) (h1 : BrO w (fun x => m1 ≤ x ∧ x < w.heap.size) v1 b1.kids) (hm : m0 ≤ m1) (hm2 : m1 ≤ w.heap.size)
    (z0 : b0.key.size ≤ maxLen ∧ b0.val.size ≤ maxLen) (z1 : b1.key.size ≤ maxLen ∧ b1.val.size ≤ maxLen) :
    BrO (w.alloc (.cells #[.string b0.key, .string b0.val, .int .i64 b0.at_, v0, .string b1.key, .string b1.val, .int .i64 b1.at_, v1] 28)) (fun x => m0 ≤ x ∧ x < w.heap.size + 1) (.slice (some ⟨w.heap.size, 0, none⟩) 2 2) [b0, b1] := by
  have BB := (Below.refl w.heap.size w).alloc (Nat.le_refl _) (.cells #[.string b0.key, .string b0.val, .int .i64 b0.at_, v0, .string b1.key, .string b1.val, .int .i64 b1.at_, v1] 28)
  have hrow := World.ownsRow_lit (base := 0) (e := 28) (size := 4) w #[.string b0.key, .string b0.val, .int .i64 b0.at_, v0, .string b1.key, .string b1.val, .int .i64 b1.at_, v1] 2 (Nat.zero_le _) (by unfold maxLen; omega) rfl
  refine BrO.row _ w.heap.size 2 [b0, b1] (fun i => if i = 0 then v0 else v1) _ (fun i x => if i = 0 then m0 ≤ x ∧ x < m1 else m1 ≤ x ∧ x < w.heap.size) (by simp) ⟨by omega, by omega⟩ hrow ?_ ?_ ?_ ?_ ?_
  · intro i hi
    have hi2 : i < 2 := hi
    rcases (show i = 0 ∨ i = 1 by omega) with rfl | rfl
    · exact ⟨rfl, rfl, rfl, rfl⟩
    · exact ⟨rfl, rfl, rfl, rfl⟩
  · intro i hi
    have hi2 : i < 2 := hi
    rcases (show i = 0 ∨ i = 1 by omega) with rfl | rfl
    · exact z0
    · exact z1
  · intro i b hi hb
    have hi2 : i < 2 := hi
    rcases (show i = 0 ∨ i = 1 by omega) with rfl | rfl
    · rw [if_pos rfl] at hb; omega
    · rw [if_neg (by omega)] at hb; omega
  · intro i j b hij hj hb hb2
    have hj2 : j < 2 := hj
    obtain rfl : i = 0 := by omega
    obtain rfl : j = 1 := by omega
    rw [if_pos rfl] at hb
    rw [if_neg (by omega)] at hb2
    omega
  · intro i hi
    have hi2 : i < 2 := hi
    rcases (show i = 0 ∨ i = 1 by omega) with rfl | rfl
    · exact h0.blw BB
    · exact h1.blw BB
set_option maxRecDepth 100000 in
set_option maxHeartbeats 4000000 in
theorem branch_any {w0 : World} {S : Nat → Prop} {p : Nat} {t : Tr} (h : Nd w0 S p t) : TrOK t → ∀ w, Below w0.heap.size w0 w →
    Calls Tryd.prog 44 #[.pointer (some ⟨p, 0, none⟩)] w fun e w' => BranchR t.toBr w e w' := by
  induction h with
  | leaf S p k v hS hb =>
    intro hok w hb0
    have BB := (Below.refl w.heap.size w).alloc (Nat.le_refl _) (.cells #[.string ⟨#[]⟩, .string ⟨#[]⟩, .int .i64 0, .slice none 0 0] 28)
    have R1 := hide (Blk.new w #[.string ⟨#[]⟩, .string ⟨#[]⟩, .int .i64 0, .slice none 0 0] 28 w.heap.size rfl)
    have X1 := hide ((hb.below hb0).below BB)
    have B1 := hide BB
    have HGR : Hid (∀ w', Below w.heap.size w w' → BranchR (Tr.leaf k v).toBr w (.returned (.agg #[.string k, .string v, .int .i64 256, .slice none 0 0])) w') := hide (fun w' hb => ⟨none, 0, 0, rfl, .nil _ _ _ (by unfold maxLen; omega), hb⟩)
    clear hb hb0 hok BB
    go_enter Tryd.func44, Tryd.ntmps44
    have x0 := (unhide X1).cell 0 rfl
    have x1 := (unhide X1).cell 1 rfl
    have x3 := (unhide X1).cell 3 rfl
    go_upto_region 4 with fail
    generalize w.alloc (.cells #[.string ⟨#[]⟩, .string ⟨#[]⟩, .int .i64 0, .slice none 0 0] 28) = w1 at *
    generalize hR : w.heap.size = R at *
    have HRW := hide hR
    clear hR
    have r0 := (unhide R1).cell 0 rfl
    have r1 := (unhide R1).cell 1 rfl
    have r2 := (unhide R1).cell 2 rfl
    have r3 := (unhide R1).cell 3 rfl
    have f0 := (unhide R1).fro 0
    have f1 := (unhide R1).fro 1
    have f2 := (unhide R1).fro 2
    have f3 := (unhide R1).fro 3
    have R2 := set4_blk (unhide R1) (.string k) (.string v) (.int .i64 256) (.slice none 0 0)
    have z0 : (set4 w1 R (.string k) (.string v) (.int .i64 256) (.slice none 0 0)).drew.cell? ⟨R, 0, none⟩ = some (.string k) := R2.cell 0 rfl
    have z1 : (set4 w1 R (.string k) (.string v) (.int .i64 256) (.slice none 0 0)).drew.cell? ⟨R, 1, none⟩ = some (.string v) := R2.cell 1 rfl
    have z2 : (set4 w1 R (.string k) (.string v) (.int .i64 256) (.slice none 0 0)).drew.cell? ⟨R, 2, none⟩ = some (.int .i64 256) := R2.cell 2 rfl
    have z3 : (set4 w1 R (.string k) (.string v) (.int .i64 256) (.slice none 0 0)).drew.cell? ⟨R, 3, none⟩ = some (.slice none 0 0) := R2.cell 3 rfl
    unfold set4 at z0 z1 z2 z3
    have B2 := hide (below_drewN ((unhide B1).trans ((set4_touch w1 R (.string k) (.string v) (.int .i64 256) (.slice none 0 0)).below (B := R) (Nat.le_of_lt (unhide R1).1) (fun b hb e => by omega))) 1)
    clear R2
    go_wp2_with fail
    go_big_region
    go_wp2_with fail
    refine bodyPost_ret (v := .agg #[.string k, .string v, .int .i64 256, .slice none 0 0]) (by simp [results, Tryd.results44, go_sem, z0, z1, z2, z3]) rfl ?_
    exact unhide HGR _ (unhide B2)
  | fork S Sl Sr p a hh l r pl pr hS h1 h2 h3 hb hl hr ihl ihr =>
    intro hok w hb0
    obtain ⟨ha, _, okl, okr⟩ := hok
    have BB := (Below.refl w.heap.size w).alloc (Nat.le_refl _) (.cells #[.string ⟨#[]⟩, .string ⟨#[]⟩, .int .i64 0, .slice none 0 0] 28)
    have R1 := hide (Blk.new w #[.string ⟨#[]⟩, .string ⟨#[]⟩, .int .i64 0, .slice none 0 0] 28 w.heap.size rfl)
    have X1 := hide ((hb.below hb0).below BB)
    have B1 := hide BB
    have HL := hide (fun wx (hx : Below w.heap.size w wx) => ihl okl wx (hb0.trans (hx.mono hb0.size)))
    have HR := hide (fun wx (hx : Below w.heap.size w wx) => ihr okr wx (hb0.trans (hx.mono hb0.size)))
    have HGR : Hid (∀ sa n cap w', BrO w' (fun x => w.heap.size ≤ x ∧ x < w'.heap.size) (.slice sa n cap) [l.toBr, r.toBr] → Below w.heap.size w w' → BranchR (Tr.fork a hh l r).toBr w (.returned (.agg #[.string ⟨#[]⟩, .string ⟨#[]⟩, .int .i64 a, .slice sa n cap])) w') := hide (fun sa n cap w' h1 hb => ⟨sa, n, cap, rfl, h1, hb⟩)
    have HZL := hide (toBr_small okl)
    have HZR := hide (toBr_small okr)
    have hab : ((a : Int) == 256) = false := by rw [beq_eq_false_iff_ne]; omega
    have hsz : (w.alloc (.cells #[.string ⟨#[]⟩, .string ⟨#[]⟩, .int .i64 0, .slice none 0 0] 28)).heap.size = w.heap.size + 1 := by simp
    have hpR : p < w.heap.size := Nat.lt_of_lt_of_le hb.1 hb0.size
    clear hb hb0 ihl ihr hl hr h1 h2 h3 BB
    have x3 := (unhide X1).cell 3 rfl
    have x4 := (unhide X1).cell 4 rfl
    have x5 := (unhide X1).cell 5 rfl
    have hX := (unhide X1).1
    go_enter Tryd.func44, Tryd.ntmps44
    go_upto_region 5 with fail
    generalize w.alloc (.cells #[.string ⟨#[]⟩, .string ⟨#[]⟩, .int .i64 0, .slice none 0 0] 28) = w1 at *
    have HL1 := hide (unhide HL w1.drew (below_drewN (unhide B1) 1))
    have HSX := hide (fun wx (hx : Touch (fun b => w.heap.size ≤ b) w1 wx) => show wx.cell? ⟨p, 3, none⟩ = some (.int .i64 a) ∧ wx.cell? ⟨p, 4, none⟩ = some (.pointer (some ⟨pl, 0, none⟩)) ∧ wx.cell? ⟨p, 5, none⟩ = some (.pointer (some ⟨pr, 0, none⟩)) from
      ⟨(hx.cell (p := ⟨p, 3, none⟩) hX (by simp; omega)).trans x3, (hx.cell (p := ⟨p, 4, none⟩) hX (by simp; omega)).trans x4, (hx.cell (p := ⟨p, 5, none⟩) hX (by simp; omega)).trans x5⟩)
    have HE : Hid (∀ (w2 w3 : World) (s1 : Option Addr) (n1 c1 : Nat) (s2 : Option Addr) (n2 c2 : Nat), BrO w2 (fun x => w1.heap.size ≤ x ∧ x < w2.heap.size) (.slice s1 n1 c1) l.toBr.kids → BrO w3 (fun x => w2.heap.size ≤ x ∧ x < w3.heap.size) (.slice s2 n2 c2) r.toBr.kids → Below w1.heap.size w1 w2 → Below w2.heap.size w2 w3 →
        Blk (set4 (w3.alloc (.cells #[.string l.toBr.key, .string l.toBr.val, .int .i64 l.toBr.at_, .slice s1 n1 c1, .string r.toBr.key, .string r.toBr.val, .int .i64 r.toBr.at_, .slice s2 n2 c2] 28)) w.heap.size (.string ⟨#[]⟩) (.string ⟨#[]⟩) (.int .i64 a) (.slice (some ⟨w3.heap.size, 0, none⟩) 2 2)) w.heap.size [.string ⟨#[]⟩, .string ⟨#[]⟩, .int .i64 a, .slice (some ⟨w3.heap.size, 0, none⟩) 2 2] ∧
        BrO (set4 (w3.alloc (.cells #[.string l.toBr.key, .string l.toBr.val, .int .i64 l.toBr.at_, .slice s1 n1 c1, .string r.toBr.key, .string r.toBr.val, .int .i64 r.toBr.at_, .slice s2 n2 c2] 28)) w.heap.size (.string ⟨#[]⟩) (.string ⟨#[]⟩) (.int .i64 a) (.slice (some ⟨w3.heap.size, 0, none⟩) 2 2)) (fun x => w.heap.size ≤ x ∧ x < (set4 (w3.alloc (.cells #[.string l.toBr.key, .string l.toBr.val, .int .i64 l.toBr.at_, .slice s1 n1 c1, .string r.toBr.key, .string r.toBr.val, .int .i64 r.toBr.at_, .slice s2 n2 c2] 28)) w.heap.size (.string ⟨#[]⟩) (.string ⟨#[]⟩) (.int .i64 a) (.slice (some ⟨w3.heap.size, 0, none⟩) 2 2)).heap.size) (.slice (some ⟨w3.heap.size, 0, none⟩) 2 2) [l.toBr, r.toBr] ∧
        Below w.heap.size w (set4 (w3.alloc (.cells #[.string l.toBr.key, .string l.toBr.val, .int .i64 l.toBr.at_, .slice s1 n1 c1, .string r.toBr.key, .string r.toBr.val, .int .i64 r.toBr.at_, .slice s2 n2 c2] 28)) w.heap.size (.string ⟨#[]⟩) (.string ⟨#[]⟩) (.int .i64 a) (.slice (some ⟨w3.heap.size, 0, none⟩) 2 2))) := hide (fun w2 w3 s1 n1 c1 s2 n2 c2 h1 h2 hb2 hb3 => by
      have hz2 := hb2.size
      have hz3 := hb3.size
      have ht := set4_touch (w3.alloc (.cells #[.string l.toBr.key, .string l.toBr.val, .int .i64 l.toBr.at_, .slice s1 n1 c1, .string r.toBr.key, .string r.toBr.val, .int .i64 r.toBr.at_, .slice s2 n2 c2] 28)) w.heap.size (.string ⟨#[]⟩) (.string ⟨#[]⟩) (.int .i64 a) (.slice (some ⟨w3.heap.size, 0, none⟩) 2 2)
      have ho := BrO.two (h1.blw hb3) h2 hz2 hz3 (unhide HZL) (unhide HZR)
      have hal : (w3.alloc (.cells #[.string l.toBr.key, .string l.toBr.val, .int .i64 l.toBr.at_, .slice s1 n1 c1, .string r.toBr.key, .string r.toBr.val, .int .i64 r.toBr.at_, .slice s2 n2 c2] 28)).heap.size = w3.heap.size + 1 := by simp
      have hts := ht.size
      refine ⟨set4_blk ((((unhide R1).below hb2).below hb3).alloc (.cells #[.string l.toBr.key, .string l.toBr.val, .int .i64 l.toBr.at_, .slice s1 n1 c1, .string r.toBr.key, .string r.toBr.val, .int .i64 r.toBr.at_, .slice s2 n2 c2] 28)) _ _ _ _, (ho.touch ht (fun b hb e => by omega)).mono (fun b hb => ⟨by omega, by omega⟩), ?_⟩
      have hb4 : Below w.heap.size w (w3.alloc (.cells #[.string l.toBr.key, .string l.toBr.val, .int .i64 l.toBr.at_, .slice s1 n1 c1, .string r.toBr.key, .string r.toBr.val, .int .i64 r.toBr.at_, .slice s2 n2 c2] 28)) := (((unhide B1).trans (hb2.mono (by omega))).trans (hb3.mono (by omega))).alloc (by omega) (.cells #[.string l.toBr.key, .string l.toBr.val, .int .i64 l.toBr.at_, .slice s1 n1 c1, .string r.toBr.key, .string r.toBr.val, .int .i64 r.toBr.at_, .slice s2 n2 c2] 28)
      exact hb4.trans (ht.below (by omega) (fun b hb e => by omega)))
    have hz1 := hsz
    go_wp2_with fail
    go_region_held3 (fun wx => wx.cell? ⟨p, 3, none⟩ = some (.int .i64 a) ∧ wx.cell? ⟨p, 4, none⟩ = some (.pointer (some ⟨pl, 0, none⟩)) ∧ wx.cell? ⟨p, 5, none⟩ = some (.pointer (some ⟨pr, 0, none⟩)))
      (first | exact unhide HSX _ T5 | exact unhide HSX _ T4 | exact unhide HSX _ T3 | exact unhide HSX _ T2 | go_keep)
      (first
        | (go_at_call 44; refine (unhide HR w2 hb2w).mono ?_; rintro e w3 ⟨s2, n2, c2, rfl, hO3, hb3⟩; have R4 := ((((unhide R1).below hb2).below hb3).alloc (.cells #[.string l.toBr.key, .string l.toBr.val, .int .i64 l.toBr.at_, .slice s1 n1 c1, .string r.toBr.key, .string r.toBr.val, .int .i64 r.toBr.at_, .slice s2 n2 c2] 28)); have r0 := R4.cell 0 rfl; have r1 := R4.cell 1 rfl; have r2 := R4.cell 2 rfl; have r3 := R4.cell 3 rfl; have f0 := R4.fro 0; have f1 := R4.fro 1; have f2 := R4.fro 2; have f3 := R4.fro 3; have T3 : Touch (fun b => w.heap.size ≤ b) w1 w3 := T2.trans (T' := fun b => w.heap.size ≤ b) (Touch.ofBelow hb3) (fun _ _ h => h); have T4 : Touch (fun b => w.heap.size ≤ b) w1 (w3.alloc (.cells #[.string l.toBr.key, .string l.toBr.val, .int .i64 l.toBr.at_, .slice s1 n1 c1, .string r.toBr.key, .string r.toBr.val, .int .i64 r.toBr.at_, .slice s2 n2 c2] 28)) := T3.alloc (.cells #[.string l.toBr.key, .string l.toBr.val, .int .i64 l.toBr.at_, .slice s1 n1 c1, .string r.toBr.key, .string r.toBr.val, .int .i64 r.toBr.at_, .slice s2 n2 c2] 28); have T5 := T4.trans (set4_touch (w3.alloc (.cells #[.string l.toBr.key, .string l.toBr.val, .int .i64 l.toBr.at_, .slice s1 n1 c1, .string r.toBr.key, .string r.toBr.val, .int .i64 r.toBr.at_, .slice s2 n2 c2] 28)) w.heap.size (.string ⟨#[]⟩) (.string ⟨#[]⟩) (.int .i64 a) (.slice (some ⟨w3.heap.size, 0, none⟩) 2 2)) (fun b _ e => by omega))
        | (go_at_call 44; refine (unhide HL1).mono ?_; rintro e w2 ⟨s1, n1, c1, rfl, hO2, hb2'⟩; have hb2 : Below w1.heap.size w1 w2 := (below_drewN (Below.refl _ w1) 1).trans hb2'; have hb2w := (unhide B1).trans (hb2.mono (unhide B1).size); have T2 : Touch (fun b => w.heap.size ≤ b) w1 w2 := Touch.ofBelow hb2))
    all_goals
      have hE := unhide HE w2 w3 s1 n1 c1 s2 n2 c2 hO2 hO3 hb2 hb3
      have z0 := hE.1.cell 0 rfl
      have z1 := hE.1.cell 1 rfl
      have z2 := hE.1.cell 2 rfl
      have z3 := hE.1.cell 3 rfl
      have HEN := hide hE
      unfold set4 at z0 z1 z2 z3
      clear hE r0 r1 r2 r3 f0 f1 f2 f3 R4 T2 T3 T4 T5 hO2 hO3 hb2 hb3 hb2' hb2w x3 x4 x5 HE
      go_wp2_with fail
      refine bodyPost_ret (v := .agg #[.string ⟨#[]⟩, .string ⟨#[]⟩, .int .i64 a, .slice (some ⟨w3.heap.size, 0, none⟩) 2 2]) (by simp [results, Tryd.results44, go_sem, z0, z1, z2, z3]) rfl ?_
      exact unhide HGR _ _ _ _ (unhide HEN).2.1 (unhide HEN).2.2
end Go.Proofs.YtgmaappilopgbaaDoor.Sha
namespace Go.Proofs.YtgmaappilopgbaaDoor.Sha
open Go.ChangeShapes Go.WideShapes Go.ChangeAt Go.RowKit
set_option linter.unusedVariables false
set_option linter.unusedSimpArgs false

/-- The map without the leaf that a hash's bits lead to. -/
def dropT (h : ByteArray) : Tr → Option Tr
  | .leaf _ _ => none
  | .fork a hh l r => if bitN h a = 0 then (match dropT h l with | none => some r | some l' => some (.fork a hh l' r)) else (match dropT h r with | none => some l | some r' => some (.fork a hh l r'))
theorem dropT_ok (h : ByteArray) : ∀ (t : Tr), TrOK t → OkO (dropT h t)
  | .leaf _ _, ho => trivial
  | .fork a hh l r, ho => by
    have h1 := dropT_ok h l ho.2.2.1
    have h2 := dropT_ok h r ho.2.2.2
    unfold dropT
    split
    · cases he : dropT h l with
      | none => exact ho.2.2.2
      | some l' => rw [he] at h1; exact ⟨ho.1, ho.2.1, h1, ho.2.2.2⟩
    · cases he : dropT h r with
      | none => exact ho.2.2.1
      | some r' => rw [he] at h2; exact ⟨ho.1, ho.2.1, ho.2.2.1, h2⟩
/-- What without answers. -/
def DropR (S : Nat → Prop) (o : Option Tr) (w : World) (e : Ending) (w' : World) : Prop := ∃ pv, e = .returned (.pointer pv) ∧ PtrM w' S pv o ∧ Touch S w w'
end Go.Proofs.YtgmaappilopgbaaDoor.Sha
namespace Go.Proofs.YtgmaappilopgbaaDoor.Sha
open Go.ChangeShapes Go.WideShapes Go.ChangeAt Go.RowKit
set_option linter.unusedVariables false
set_option linter.unusedSimpArgs false

/-- What MapDrop answers of a map: the branch, the code. -/
def mdO (o : Option Tr) (key : ByteArray) : Br × Int := match o with
  | none => (brOf none, 5)
  | some t => if (leadL (kh key) t).1 = key then (brOf (dropT (kh key) t), 0) else (brOf none, 5)
def mdOut (b : Br) (key : ByteArray) : Br × Int := if txC key.size 1 24 = 0 then (match mapV b with
    | none => (brOf none, 1)
    | some o => mdO o key)
  else (brOf none, txC key.size 1 24)
/-- A branch as a value, its slices of the call's own. -/
def BrV (m : Nat) (w : World) (u : Value) (b : Br) : Prop := ∃ sa n cap, u = .agg #[.string b.key, .string b.val, .int .i64 b.at_, .slice sa n cap] ∧ BrO w (fun x => m ≤ x ∧ x < w.heap.size) (.slice sa n cap) b.kids
theorem brV_nil (m : Nat) (w : World) : BrV m w (.agg #[.string ⟨#[]⟩, .string ⟨#[]⟩, .int .i64 0, .slice none 0 0]) (brOf none) := ⟨none, 0, 0, rfl, .nil _ _ _ (by unfold maxLen; omega)⟩
set_option maxRecDepth 100000 in
set_option maxHeartbeats 1000000 in
theorem branch_nil (w : World) : Calls Tryd.prog 44 #[.pointer none] w fun e w' => BranchR (brOf none) w e w' := by
  have HGR : Hid (∀ w', Below w.heap.size w w' → BranchR (brOf none) w (.returned (.agg #[.string ⟨#[]⟩, .string ⟨#[]⟩, .int .i64 0, .slice none 0 0])) w') := hide (fun w' hb => ⟨none, 0, 0, rfl, .nil _ _ _ (by unfold maxLen; omega), hb⟩)
  have R1 := hide (Blk.new w #[.string ⟨#[]⟩, .string ⟨#[]⟩, .int .i64 0, .slice none 0 0] 28 w.heap.size rfl)
  have B1 := hide ((Below.refl w.heap.size w).alloc (Nat.le_refl _) (.cells #[.string ⟨#[]⟩, .string ⟨#[]⟩, .int .i64 0, .slice none 0 0] 28))
  have r0 := (unhide R1).cell 0 rfl
  have r1 := (unhide R1).cell 1 rfl
  have r2 := (unhide R1).cell 2 rfl
  have r3 := (unhide R1).cell 3 rfl
  go_enter Tryd.func44, Tryd.ntmps44
  go_wp2_with fail
  refine bodyPost_ret (v := .agg #[.string ⟨#[]⟩, .string ⟨#[]⟩, .int .i64 0, .slice none 0 0]) (by simp [results, Tryd.results44, go_sem, r0, r1, r2, r3]) rfl ?_
  exact unhide HGR _ (unhide B1)
/-- Behind the last stores. -/
theorem end4b {w wx : World} {R m : Nat} {x0 x1 x2 x3 : Value} {b : Br} {sa : Option Addr} {n cap : Nat} (hX : Blk wx R [x0, x1, x2, x3]) (hb : Below w.heap.size w wx) (ho : BrO wx (fun x => m ≤ x ∧ x < wx.heap.size) (.slice sa n cap) b.kids) (h0 : w.heap.size ≤ R) (h1 : R < m) :
    Blk (set4 wx R (.string b.key) (.string b.val) (.int .i64 b.at_) (.slice sa n cap)) R [.string b.key, .string b.val, .int .i64 b.at_, .slice sa n cap] ∧ BrV w.heap.size (set4 wx R (.string b.key) (.string b.val) (.int .i64 b.at_) (.slice sa n cap)) (.agg #[.string b.key, .string b.val, .int .i64 b.at_, .slice sa n cap]) b ∧ Below w.heap.size w (set4 wx R (.string b.key) (.string b.val) (.int .i64 b.at_) (.slice sa n cap)) := by
  have ht := set4_touch wx R (.string b.key) (.string b.val) (.int .i64 b.at_) (.slice sa n cap)
  have hts := ht.size
  refine ⟨set4_blk hX _ _ _ _, ⟨sa, n, cap, rfl, (ho.touch ht (fun q hq e => by omega)).mono (fun q hq => ⟨by omega, by omega⟩)⟩, hb.trans (ht.below hb.size (fun q hq e => by omega))⟩
end Go.Proofs.YtgmaappilopgbaaDoor.Sha
namespace Go.Proofs.YtgmaappilopgbaaDoor.Sha
open Go.ChangeShapes Go.WideShapes Go.ChangeAt Go.RowKit Go.Shelf
set_option linter.unusedVariables false
set_option linter.unusedSimpArgs false
attribute [local go_sem] Oper.semAt_some

/-- A leaf in memory, as it lies in the world w0 below n₀. -/
abbrev LfA (w0 : World) (n₀ : Nat) := { x : Nat × ByteArray × ByteArray // x.1 < n₀ ∧ w0.cell? ⟨x.1, 0, none⟩ = some (.string x.2.1) ∧ w0.cell? ⟨x.1, 1, none⟩ = some (.string x.2.2) ∧ x.2.1.size ≤ 24 ∧ x.2.2.size ≤ 60 }
inductive LT (w0 : World) (n₀ : Nat) where
  | leaf (x : LfA w0 n₀)
  | fork (a : Nat) (l r : LT w0 n₀)
def LT.list {w0 : World} {n₀ : Nat} : LT w0 n₀ → List (LfA w0 n₀)
  | .leaf x => [x]
  | .fork _ l r => l.list ++ r.list
def IsLT {w0 : World} {n₀ : Nat} (W : World) : Nat → LT w0 n₀ → Prop
  | p, .leaf x => p = x.1.1 ∧ W.cell? ⟨p, 3, none⟩ = some (.int .i64 256)
  | p, .fork a l r => p < n₀ ∧ a < 256 ∧ W.cell? ⟨p, 3, none⟩ = some (.int .i64 a) ∧ ∃ pl pr, W.cell? ⟨p, 4, none⟩ = some (.pointer (some ⟨pl, 0, none⟩)) ∧ W.cell? ⟨p, 5, none⟩ = some (.pointer (some ⟨pr, 0, none⟩)) ∧ IsLT W pl l ∧ IsLT W pr r
theorem IsLT.below {w0 A B : World} {n₀ : Nat} (h : Below n₀ A B) : ∀ {T : LT w0 n₀} {p : Nat}, IsLT A p T → IsLT B p T
  | .leaf x, p, ⟨h1, h2⟩ => ⟨h1, (h.cell (p := ⟨p, 3, none⟩) (by rw [h1]; exact x.2.1)).trans h2⟩
  | .fork a l r, p, ⟨h0, h1, h2, pl, pr, h3, h4, h5, h6⟩ => ⟨h0, h1, (h.cell (p := ⟨p, 3, none⟩) h0).trans h2, pl, pr, (h.cell (p := ⟨p, 4, none⟩) h0).trans h3, (h.cell (p := ⟨p, 5, none⟩) h0).trans h4, h5.below h, h6.below h⟩
theorem wide_room (k : Nat) : Fence.wide.room k := fun d h => by cases h
theorem yield_wide {m : Nat} (m' : Nat) {P : Program} {l : Nat} {args : Array Value} {W : World} {R : Ending → World → Prop} (h : YieldAt Fence.wide m P l args W R) : YieldAt Fence.wide m' P l args W R := by
  obtain ⟨fn, tmps, asg, bd, hy, hR⟩ := h
  exact ⟨fn, tmps, asg, bd, hy, hR.1, fun c cs _ => hR.2 c cs (wide_room _)⟩
/-- The leaves of a map, in their order. -/
def Tr.lvs : Tr → List (ByteArray × ByteArray)
  | .leaf k v => [(k, v)]
  | .fork _ _ l r => l.lvs ++ r.lvs
theorem lt_of_nd {w : World} {S : Nat → Prop} {p : Nat} {t : Tr} (h : Nd w S p t) : TrOK t → ∃ T : LT w w.heap.size, IsLT w p T ∧ T.list.map (fun x => x.1.2) = t.lvs := by
  induction h with
  | leaf S p k v h0 h1 => intro ho; exact ⟨.leaf ⟨(p, k, v), h1.1, h1.cell 0 rfl, h1.cell 1 rfl, (okK_iff.1 ho.1).2, ho.2⟩, ⟨rfl, h1.cell 3 rfl⟩, rfl⟩
  | fork S Sl Sr p a h l r pl pr h0 h1 h2 h3 h4 h5 h6 i1 i2 =>
    intro ho
    obtain ⟨T1, a1, b1⟩ := i1 ho.2.2.1
    obtain ⟨T2, a2, b2⟩ := i2 ho.2.2.2
    exact ⟨.fork a T1 T2, ⟨h4.1, ho.1, h4.cell 3 rfl, pl, pr, h4.cell 4 rfl, h4.cell 5 rfl, a1, a2⟩, by simp only [LT.list, List.map_append, b1, b2]; rfl⟩
set_option maxRecDepth 100000 in
set_option maxHeartbeats 2000000 in
theorem visit_in {w0 : World} {n₀ : Nat} (l N : Nat) (J Jx : List (LfA w0 n₀) → World → Prop)
    (hY : ∀ m pre x W, J pre W → pre.length < N → YieldAt Fence.wide m Tryd.prog l #[.pointer (some ⟨x.1.1, 0, none⟩)] W fun e W' =>
      (e = .returned (.bool true) ∧ J (pre ++ [x]) W' ∧ Below n₀ W W') ∨ (e = .returned (.bool false) ∧ Jx (pre ++ [x]) W')) (T : LT w0 n₀) :
    ∀ (n : Nat) (p : Nat) (pre : List (LfA w0 n₀)) (W : World), IsLT W p T → J pre W → pre.length + T.list.length ≤ N →
      CallsIn Fence.wide n Tryd.prog 112 #[.pointer (some ⟨p, 0, none⟩), .func (.yield l) #[] #[]] W fun e W' =>
        (e = .returned (.bool true) ∧ J (pre ++ T.list) W' ∧ Below n₀ W W') ∨ (e = .returned (.bool false) ∧ ∃ q, q <+: T.list ∧ Jx (pre ++ q) W') := by
  induction T with
  | leaf x =>
    intro n p pre W ht hJ hN
    obtain ⟨rfl, c3⟩ := ht
    obtain ⟨fn, tmps, asg, bd, hy, hR⟩ := hY (n - 1) pre x W hJ (by simp [LT.list] at hN; omega)
    refine callsIn_of_wp Tryd.func112 rfl trivial ?_ rfl
    simp only [Tryd.ntmps112, List.size_toArray, List.length_cons, List.length_nil, Nat.reduceAdd, Nat.reduceSub, Array.replicate_succ, Array.replicate_zero, List.push_toArray, List.append_toArray, List.nil_append, List.cons_append]
    gi_wp2
    refine ⟨fun h => (by cases h), ?_⟩
    refine hR.mono ?_
    rintro e W2 (⟨rfl, hJ2, hb2⟩ | ⟨rfl, hx2⟩)
    · gi_wp2
      go_ret
      exact .inl ⟨rfl, hJ2, hb2⟩
    · gi_wp2
      go_ret
      exact .inr ⟨rfl, [x], List.prefix_refl _, hx2⟩
  | fork a tl tr ihl ihr =>
    intro n p pre W ht hJ hN
    obtain ⟨h0, ha, c3, pl, pr, c4, c5, hl, hr⟩ := ht
    simp only [LT.list, List.length_append] at hN
    have hdd : ∀ k : Nat, (Fence.wide.depth.isSome = true → 1 ≤ k) := fun k h => by cases h
    have hab : ((a : Int) == 256) = false := by rw [beq_eq_false_iff_ne]; omega
    have ih1 := (ihl (n - 1) pl pre W hl hJ (by omega)).mono (R' := fun e W1 =>
        (e = .returned (.bool true) ∧ W1.cell? ⟨p, 5, none⟩ = some (.pointer (some ⟨pr, 0, none⟩)) ∧ J (pre ++ tl.list) W1 ∧ Below n₀ W W1 ∧ IsLT W1 pr tr) ∨
        (e = .returned (.bool false) ∧ ∃ q, q <+: tl.list ∧ Jx (pre ++ q) W1))
      (fun e W1 h => h.elim (fun ⟨he, hj, hb1⟩ => .inl ⟨he, (hb1.cell (p := ⟨p, 5, none⟩) h0).trans c5, hj, hb1, hr.below hb1⟩) .inr)
    clear ihl
    refine callsIn_of_wp Tryd.func112 rfl trivial ?_ rfl
    simp only [Tryd.ntmps112, List.size_toArray, List.length_cons, List.length_nil, Nat.reduceAdd, Nat.reduceSub, Array.replicate_succ, Array.replicate_zero, List.push_toArray, List.append_toArray, List.nil_append, List.cons_append]
    gi_wp2_with (first
      | (refine ⟨trivial, ?_⟩; (try refine ⟨hdd _, ?_⟩); gi_at_call 112; refine ih1.mono ?_; clear ih1; rintro e W1 (⟨rfl, c5', hJ1, hb1, hr1⟩ | ⟨rfl, q, hq, hx1⟩))
      | (refine ⟨trivial, ?_⟩; (try refine ⟨hdd _, ?_⟩); gi_at_call 112; refine (ihr (n - 1) pr _ _ hr1 hJ1 (by simp; omega)).mono ?_; rintro e W3 (⟨rfl, hJ3, hb3⟩ | ⟨rfl, q, hq, hx3⟩)))
    · go_ret
      exact .inl ⟨rfl, by simpa [LT.list, List.append_assoc] using hJ3, hb1.trans hb3⟩
    · go_ret
      obtain ⟨r, hr'⟩ := hq
      exact .inr ⟨rfl, tl.list ++ q, ⟨r, by simp [LT.list, ← hr']⟩, by simpa [List.append_assoc] using hx3⟩
    · refine ⟨trivial, ?_⟩
      gi_wp2
      go_ret
      exact .inr ⟨rfl, q, hq.trans (by simp [LT.list]), hx1⟩
set_option maxHeartbeats 1000000 in
theorem visit_nil (l n : Nat) (W : World) :
    CallsIn Fence.wide n Tryd.prog 112 #[.pointer none, .func (.yield l) #[] #[]] W fun e W' => e = .returned (.bool true) ∧ W' = W := by
  refine callsIn_of_wp Tryd.func112 rfl trivial ?_ rfl
  simp only [Tryd.ntmps112, List.size_toArray, List.length_cons, List.length_nil, Nat.reduceAdd, Nat.reduceSub, Array.replicate_succ, Array.replicate_zero, List.push_toArray, List.append_toArray, List.nil_append, List.cons_append]
  gi_wp2
  go_ret
  exact ⟨rfl, rfl⟩
/-- A pointer to a map's nodes, or nil; the leaves. -/
def IsLO {w0 : World} {n₀ : Nat} (W : World) : Option Addr → Option (LT w0 n₀) → Prop
  | pv, none => pv = none
  | pv, some T => ∃ p, pv = some ⟨p, 0, none⟩ ∧ IsLT W p T
def LO.list {w0 : World} {n₀ : Nat} : Option (LT w0 n₀) → List (LfA w0 n₀)
  | none => []
  | some T => T.list
theorem IsLO.below {w0 A B : World} {n₀ : Nat} (h : Below n₀ A B) {o : Option (LT w0 n₀)} {pv : Option Addr} (hl : IsLO A pv o) : IsLO B pv o := by
  cases o with
  | none => exact hl
  | some T => obtain ⟨p, h1, h2⟩ := hl; exact ⟨p, h1, h2.below h⟩
set_option maxHeartbeats 1000000 in
theorem leaves1_in {w0 : World} {n₀ : Nat} (n l Bt : Nat) (pv : Option Addr) (o : Option (LT w0 n₀)) (J Jx : List (LfA w0 n₀) → World → Prop)
    (hY : ∀ pre x W, J pre W → pre.length < (LO.list o).length → YieldAt Fence.wide (n - 1) Tryd.prog l #[.pointer (some ⟨x.1.1, 0, none⟩)] W fun e W' =>
      (e = .returned (.bool true) ∧ J (pre ++ [x]) W' ∧ Below n₀ W W') ∨ (e = .returned (.bool false) ∧ Jx (pre ++ [x]) W'))
    (W : World) (hBt : W.cell? ⟨Bt, 0, none⟩ = some (.pointer pv)) (hT : IsLO W pv o) (h0 : J [] W) :
    CallsIn Fence.wide n Tryd.prog 111 #[.func (.yield l) #[] #[], .pointer (some ⟨Bt, 0, none⟩)] W fun e W' => (∃ v, e = .returned v) ∧
      ((∃ ys, ys = LO.list o ∧ J ys W') ∨ (∃ pre, pre <+: LO.list o ∧ Jx pre W')) := by
  have hdd : ∀ k : Nat, (Fence.wide.depth.isSome = true → 1 ≤ k) := fun k h => by cases h
  cases o with
  | none =>
    obtain rfl : pv = none := hT
    have hp := visit_nil l (n - 1) W
    refine callsIn_of_wp Tryd.func111 rfl trivial ?_ rfl
    simp only [Tryd.ntmps111, List.size_toArray, List.length_cons, List.length_nil, Nat.reduceAdd, Nat.reduceSub, Array.replicate_succ, Array.replicate_zero, List.push_toArray, List.append_toArray, List.nil_append, List.cons_append]
    gi_wp2_with (refine ⟨trivial, ?_⟩; (try refine ⟨hdd _, ?_⟩); gi_at_call 112; refine hp.mono ?_; clear hp; rintro e W1 ⟨rfl, rfl⟩)
    go_end0
    exact ⟨⟨_, rfl⟩, .inl ⟨_, rfl, h0⟩⟩
  | some T =>
    obtain ⟨p, rfl, hT'⟩ := hT
    have hp := visit_in l T.list.length J Jx (fun m pre x W hj hl => yield_wide m (hY pre x W hj hl)) T (n - 1) p [] W hT' h0 (by simp)
    refine callsIn_of_wp Tryd.func111 rfl trivial ?_ rfl
    simp only [Tryd.ntmps111, List.size_toArray, List.length_cons, List.length_nil, Nat.reduceAdd, Nat.reduceSub, Array.replicate_succ, Array.replicate_zero, List.push_toArray, List.append_toArray, List.nil_append, List.cons_append]
    gi_wp2_with (refine ⟨trivial, ?_⟩; (try refine ⟨hdd _, ?_⟩); gi_at_call 112; refine hp.mono ?_; clear hp; rintro e W1 (⟨rfl, hJ1, _⟩ | ⟨rfl, q, hq, hx⟩))
    · go_end0
      exact ⟨⟨_, rfl⟩, .inl ⟨_, rfl, by simpa [LO.list] using hJ1⟩⟩
    · go_end0
      exact ⟨⟨_, rfl⟩, .inr ⟨q, hq, by simpa using hx⟩⟩
set_option maxHeartbeats 1000000 in
theorem leaves_in (n : Nat) (pv : Option Addr) (w : World) :
    CallsIn Fence.wide n Tryd.prog 79 #[.pointer pv] w fun e w' => e = .returned (.func (.func 111) #[] #[.pointer (some ⟨w.heap.size, 0, none⟩)]) ∧ w' = w.alloc (.cells #[.pointer pv] 65) := by
  refine callsIn_of_wp Tryd.func79 rfl trivial ?_ rfl
  simp only [Tryd.ntmps79, List.size_toArray, List.length_cons, List.length_nil, Nat.reduceAdd, Nat.reduceSub, Array.replicate_succ, Array.replicate_zero, List.push_toArray, List.append_toArray, List.nil_append, List.cons_append]
  gi_wp2
  go_ret
  exact ⟨rfl, rfl⟩
theorem leaves_stops {w0 : World} {n₀ : Nat} (n Bt : Nat) (pv : Option Addr) (o : Option (LT w0 n₀)) (w : World) (hBt : Bt < w.heap.size) (hn₀ : n₀ ≤ w.heap.size)
    (hc : w.cell? ⟨Bt, 0, none⟩ = some (.pointer pv)) (hT : IsLO w pv o) :
    SeqStopsK Fence.wide n Tryd.prog 111 #[.pointer (some ⟨Bt, 0, none⟩)] (fun x : LfA w0 n₀ => #[Value.pointer (some ⟨x.1.1, 0, none⟩)]) (Below n₀) (fun ys => ys = LO.list o) (fun pre => pre <+: LO.list o) (LO.list o).length w := fun l J Jx W hW _ _ hY h0 =>
  leaves1_in n l Bt pv o J Jx hY W ((hW.cell (p := ⟨Bt, 0, none⟩) hBt).trans hc) (hT.below (hW.mono hn₀)) h0
theorem box_cell (W : World) (v : Value) (t : TypeId) : (W.alloc (.cells #[v] t)).cell? ⟨W.heap.size, 0, none⟩ = some v ∧ (W.alloc (.cells #[v] t)).frozen? ⟨W.heap.size, 0, none⟩ = false :=
  have h := Blk.new W #[v] t W.heap.size rfl
  ⟨h.cell 0 rfl, h.fro 0⟩
theorem alloc_cell {W : World} {a : Addr} {v : Value} (o : Obj) (h : W.cell? a = some v) (hf : W.frozen? a = false) : (W.alloc o).cell? a = some v ∧ (W.alloc o).frozen? a = false :=
  ⟨cell_kept h (World.grownBy_alloc W o none) (fun r e => by cases e), (frozen_kept h (World.grownBy_alloc W o none) (fun r e => by cases e)).trans hf⟩
set_option maxRecDepth 100000 in
set_option maxHeartbeats 2000000 in
theorem size_in (n : Nat) (hn : 3 ≤ n) (pv : Option Addr) (w : World) (o : Option (LT w w.heap.size)) (hL : IsLO w pv o) (h40 : (LO.list o).length ≤ 1000) :
    CallsIn Fence.wide n Tryd.prog 41 #[.pointer pv] w fun e W' => e = .returned (.int .i64 (LO.list o).length) ∧ Below w.heap.size w W' := by
  have h1 : 1 ≤ n := by omega
  have hdd : ∀ k : Nat, (Fence.wide.depth.isSome = true → 1 ≤ k) := fun k h => by cases h
  refine callsIn_of_wp_marks Tryd.func41 rfl trivial ?_ rfl
  simp only [Tryd.ntmps41, List.size_toArray, List.length_cons, List.length_nil, Nat.reduceAdd, Nat.reduceSub, Array.replicate_succ, Array.replicate_zero, List.push_toArray, List.append_toArray, List.nil_append, List.cons_append]
  gi_wp2_with (refine ⟨trivial, ?_⟩; (try refine ⟨hdd _, ?_⟩); gi_at_call 79; refine (leaves_in (n - 1) _ _).mono ?_; rintro e w' ⟨rfl, rfl⟩)
  have hs := box_cell w (.int .i64 0) 3
  have hs2 := alloc_cell (.cells #[.pointer pv] 65) hs.1 hs.2
  have hb := box_cell (w.alloc (.cells #[.int .i64 0] 3)) (.pointer pv) 65
  rw [World.size_alloc] at hb
  have hB0 : Below w.heap.size w ((w.alloc (.cells #[.int .i64 0] 3)).alloc (.cells #[.pointer pv] 65)) := ((Below.refl _ w).alloc (Nat.le_refl _) _).alloc (by simp) _
  refine wpIn_rangeFunc_ownF rfl h1 (gf := 111) (lb := #[.pointer (some ⟨w.heap.size + 1, 0, none⟩)]) rfl trivial (enters_of Tryd.func111 (by kernel_rfl) rfl)
    (leaves_stops (n - 1) (w.heap.size + 1) pv o _ (by simp) (by simp; omega) hb.1 (hL.below hB0)) belowK_t (belowK_b (by simp; omega)) (Below.refl _ _) (fun _ => rfl)
    (fun pre W => (W.cell? ⟨w.heap.size, 0, none⟩ = some (.int .i64 pre.length) ∧ W.frozen? ⟨w.heap.size, 0, none⟩ = false) ∧ Below w.heap.size w W)
    (fun _ _ _ => False)
    (OwnFrom.and (Own.from (fun s A B row hs hg hr => ⟨cell_kept hs.1 hg hr, (frozen_kept hs.1 hg hr).trans hs.2⟩) _) (ownFrom_below (Nat.le_refl _) (by simp; omega)))
    (fun _ _ _ _ _ hs _ _ => hs)
    ⟨hs2, hB0⟩
    (fun x => { tmps := #[.pointer pv, undef, .int .i64 0, .pointer (some ⟨w.heap.size, 0, none⟩), .pointer pv, .func (.func 111) #[] #[.pointer (some ⟨w.heap.size + 1, 0, none⟩)], .pointer (some ⟨x.1.1, 0, none⟩), undef, undef, undef], defers := [] }) ?assign ?body ?done ?stop
  case assign =>
    intro l x W K hK
    gi_wp2
    first | exact hK | simpa using hK | simpa [Array.zip] using hK | (rw [List.zip_toArray]; simpa using hK)
  case body =>
    rintro l pre x W ⟨⟨hc, hf⟩, hB⟩ hlen
    have hle : pre.length + 1 ≤ 1000 := by omega
    have hw : wrap64 ((pre.length : Int) + 1) = ((pre ++ [x]).length : Int) := by unfold wrap64; simp; omega
    gi_wp2
    exact ⟨KeepsOthers.setCell _ _ _, (Below.refl w.heap.size W).setCell (p := ⟨w.heap.size, 0, none⟩) (Nat.le_refl _) _, ⟨by first | (rw [← hw]; exact World.cell?_setCell_same' _ _ _ (by rw [hc]; rfl)) | (rw [show ((pre ++ [x]).length : Int) = (pre.length : Int) + 1 by simp]; exact World.cell?_setCell_same' _ _ _ (by rw [hc]; rfl)), by rw [World.frozen?_setCell]; exact hf⟩, hB.setCell (p := ⟨w.heap.size, 0, none⟩) (Nat.le_refl _) _⟩
  case done =>
    rintro D ys W hD rfl ⟨⟨hc, _⟩, hB⟩ hK
    gi_wp2
    refine ⟨by simp, .inl ⟨_, _, rfl, run_takeDeferred hK, ?_⟩⟩
    exact ⟨_, results_tmp rfl _ _ _, rfl, hB.trans (belowK_b (w := w) (Nat.le_refl _) W D _ _ (by simp at hD; omega) hK rfl rfl)⟩
  case stop =>
    rintro D c pre W _ _ h _
    exact h.elim
theorem size_any {w : World} {S : Nat → Prop} {p : Nat} {t : Tr} (h : Nd w S p t) (ho : TrOK t) (h40 : t.lvs.length ≤ 1000) :
    Calls Tryd.prog 41 #[.pointer (some ⟨p, 0, none⟩)] w fun e w' => e = .returned (.int .i64 t.lvs.length) ∧ Below w.heap.size w w' := by
  obtain ⟨T, h1, h2⟩ := lt_of_nd h ho
  have hl : (LO.list (some T)).length = t.lvs.length := by rw [← h2]; simp [LO.list]
  have := callsIn_wide.1 (size_in 3 (Nat.le_refl _) _ w (some T) ⟨p, rfl, h1⟩ (by omega))
  rw [hl] at this
  exact this
end Go.Proofs.YtgmaappilopgbaaDoor.Sha
namespace Go.Proofs.YtgmaappilopgbaaDoor.Sha
open Go.ChangeShapes Go.WideShapes Go.ChangeAt Go.RowKit
set_option linter.unusedVariables false
set_option linter.unusedSimpArgs false

/-- How many leaves. -/
def Tr.lvN : Tr → Nat
  | .leaf _ _ => 1
  | .fork _ _ l r => l.lvN + r.lvN
/-- Hashes below a fork: alike ahead of its bit, the first kid's with 0 there. -/
def Sep : Tr → Prop
  | .leaf _ _ => True
  | .fork a h l r => h = l.hash ∧ fd l.hash r.hash = a ∧ bitN l.hash a = 0 ∧ Sep l ∧ Sep r
theorem readV_sep : ∀ (n : Nat) (b : Br), SizeOf.sizeOf b ≤ n → ∀ (least : Int) (room : Nat) (t : Tr) (r : Nat), readV b least room = some (t, r) → Sep t ∧ r + t.lvN = room := by
  intro n
  induction n with
  | zero => intro b hb; exact absurd hb (by cases b; simp only [Br.mk.sizeOf_spec]; omega)
  | succ n ih =>
    intro b hb least room t r h
    obtain ⟨k, v, a, ks⟩ := b
    by_cases ha : a = 256
    · rw [readV_leaf ha] at h
      split at h
      · rename_i hc
        cases h
        exact ⟨trivial, by show room - 1 + 1 = room; omega⟩
      · cases h
    · by_cases hc : least ≤ a ∧ a ≤ 255 ∧ ks.length = 2 ∧ k.size = 0 ∧ v.size = 0
      · obtain ⟨b0, b1, rfl⟩ := two_of hc.2.2.1
        rw [readV_fork ⟨hc.1, hc.2.1, hc.2.2.2.1, hc.2.2.2.2⟩] at h
        have z0 := kid_lt (k := k) (v := v) (a := a) (l := [b0, b1]) (b := b0) (by simp)
        have z1 := kid_lt (k := k) (v := v) (a := a) (l := [b0, b1]) (b := b1) (by simp)
        cases h0 : readV b0 (a + 1) room with
        | none => rw [h0] at h; cases h
        | some p0 =>
          obtain ⟨t0, r0⟩ := p0
          rw [h0] at h
          dsimp only at h
          cases h1 : readV b1 (a + 1) r0 with
          | none => rw [h1] at h; cases h
          | some p1 =>
            obtain ⟨t1, r1⟩ := p1
            rw [h1] at h
            dsimp only at h
            split at h
            · rename_i hf
              cases h
              obtain ⟨e0, n0⟩ := ih b0 (by omega) _ _ _ _ h0
              obtain ⟨e1, n1⟩ := ih b1 (by omega) _ _ _ _ h1
              exact ⟨⟨rfl, hf.1, hf.2, e0, e1⟩, by show r + (t0.lvN + t1.lvN) = room; omega⟩
            · cases h
      · rw [readV_no ha hc] at h; cases h
def SepO : Option Tr → Prop
  | none => True
  | some t => Sep t ∧ t.lvN ≤ 40
theorem mapV_sep {b : Br} {o : Option Tr} (h : mapV b = some o) : SepO o := by
  unfold mapV at h
  split at h
  · cases h; trivial
  · cases hr : readV b 0 40 with
    | none => rw [hr] at h; cases h
    | some p =>
      obtain ⟨t, r⟩ := p
      rw [hr] at h
      cases h
      obtain ⟨h1, h2⟩ := readV_sep _ b (Nat.le_refl _) 0 40 t r hr
      exact ⟨h1, by omega⟩
theorem fdF_comm (x y : ByteArray) : ∀ n i, fdF x y n i = fdF y x n i
  | 0, i => rfl
  | n + 1, i => by
    unfold fdF
    by_cases h : bitN x i = bitN y i
    · rw [if_pos h, if_pos h.symm, fdF_comm x y n]
    · rw [if_neg h, if_neg (fun e => h e.symm)]
theorem fd_comm (x y : ByteArray) : fd x y = fd y x := fdF_comm x y 256 0
theorem lead_alike (h : ByteArray) : ∀ (t : Tr) (m : Nat), Rise m t → Sep t → ∀ i, i < t.at_ → bitN (kh (leadL h t).1) i = bitN t.hash i
  | .leaf k v, m, hr, hs, i, hi => rfl
  | .fork a hh l r, m, hr, hs, i, hi => by
    obtain ⟨r0, r1, r2, r3⟩ := hr
    obtain ⟨s0, s1, s2, s3, s4⟩ := hs
    have hi' : i < a := hi
    have hl := r2.le
    have hrr := r3.le
    unfold leadL
    split
    · rw [lead_alike h l _ r2 s3 i (by omega)]
      show _ = bitN hh i
      rw [s0]
    · rw [lead_alike h r _ r3 s4 i (by omega)]
      show _ = bitN hh i
      rw [s0]
      exact (((fd_iff l.hash r.hash a r1).1 s1).1 i hi').symm
theorem lead_bit (h : ByteArray) {a : Nat} {hh : ByteArray} {l r : Tr} {m : Nat} (hr : Rise m (.fork a hh l r)) (hs : Sep (.fork a hh l r)) : bitN (kh (leadL h (.fork a hh l r)).1) a = bitN h a := by
  obtain ⟨r0, r1, r2, r3⟩ := hr
  obtain ⟨s0, s1, s2, s3, s4⟩ := hs
  have hl := r2.le
  have hrr := r3.le
  unfold leadL
  split
  · rename_i hb
    rw [lead_alike h l _ r2 s3 a (by omega), s2, hb]
  · rename_i hb
    rw [lead_alike h r _ r3 s4 a (by omega)]
    have h1 := ((fd_iff l.hash r.hash a r1).1 s1).2
    rcases bitN_01 r.hash a with e | e
    · exact absurd (s2.trans e.symm) h1
    · rcases bitN_01 h a with e' | e'
      · exact absurd e' hb
      · rw [e, e']
/-- A fork of a new leaf and a map. -/
def forkT (a : Nat) (h k v : ByteArray) (t : Tr) : Tr := if bitN h a = 0 then .fork a h (.leaf k v) t else .fork a h t (.leaf k v)
/-- The map with a leaf. -/
def putT (h : ByteArray) (at_ : Nat) (k v : ByteArray) : Tr → Tr
  | .leaf k' v' => if at_ = 256 then .leaf k v else forkT at_ h k v (.leaf k' v')
  | .fork a hh l r => if a < at_ then (if bitN h a = 0 then .fork a hh (putT h at_ k v l) r else .fork a hh l (putT h at_ k v r)) else forkT at_ h k v (.fork a hh l r)
theorem forkT_ok {a : Nat} {h k v : ByteArray} {t : Tr} (ha : a < 256) (hh : h.size = 32) (hk : okK k = true) (hv : v.size ≤ 60) (ht : TrOK t) : TrOK (forkT a h k v t) := by
  unfold forkT; split
  · exact ⟨ha, hh, ⟨hk, hv⟩, ht⟩
  · exact ⟨ha, hh, ht, ⟨hk, hv⟩⟩
theorem putT_ok (h : ByteArray) (a : Nat) (k v : ByteArray) (ha : a ≤ 256) (hh : h.size = 32) (hk : okK k = true) (hv : v.size ≤ 60) : ∀ t, TrOK t → TrOK (putT h a k v t)
  | .leaf k' v', ho => by
    unfold putT; split
    · exact ⟨hk, hv⟩
    · exact forkT_ok (by omega) hh hk hv ho
  | .fork b hb l r, ho => by
    unfold putT; split
    · split
      · exact ⟨ho.1, ho.2.1, putT_ok h a k v ha hh hk hv l ho.2.2.1, ho.2.2.2⟩
      · exact ⟨ho.1, ho.2.1, ho.2.2.1, putT_ok h a k v ha hh hk hv r ho.2.2.2⟩
    · exact forkT_ok (by have := ho.1; omega) hh hk hv ho
/-- What with answers: the nodes that were there, the leaf's, and new ones. -/
def WithR (S : Nat → Prop) (q : Nat) (t : Tr) (w : World) (e : Ending) (w' : World) : Prop := ∃ p, e = .returned (.pointer (some ⟨p, 0, none⟩)) ∧ Nd w' (fun b => S b ∨ b = q ∨ (w.heap.size ≤ b ∧ b < w'.heap.size)) p t ∧ Touch S w w'
theorem newFork_nd {w : World} {S : Nat → Prop} {p q a : Nat} {t : Tr} {k v : ByteArray} (hn : Nd w S p t) (ho : t.hash.size = 32) (hS : ∀ b, S b → b < w.heap.size) (hq : Blk w q (lfC k v)) (hqS : ¬ S q) (hk : k.size ≤ 65536) (ha : a < 256) (hxy : bitN (kh k) a ≠ bitN t.hash a) :
    Calls Tryd.prog 113 #[.int .i64 a, .pointer (some ⟨q, 0, none⟩), .pointer (some ⟨p, 0, none⟩)] w fun e w' => WithR S q (forkT a (kh k) k v t) w e w' := by
  refine (newFork_any a q p (kh k) t.hash w ha (kh_size hk) ho hxy hq.1 hn.here.2 (hq.cell 2 rfl) hn.hashC).mono ?_
  rintro e w' ⟨f, rfl, hf, hB, hb⟩
  have hq' := hq.1
  have hnq := hq.below hb
  have hnn := hn.blw hb
  refine ⟨f, rfl, ?_, Touch.ofBelow hb⟩
  have hfl := hB.1
  unfold forkT
  unfold kidsV at hB
  by_cases hb0 : bitN (kh k) a = 0
  · rw [if_pos hb0] at hB ⊢
    exact .fork _ (fun b => b = q) S f a (kh k) (.leaf k v) t q p (.inr (.inr ⟨hf, hfl⟩)) (fun b e => ⟨.inr (.inl e), by omega⟩) (fun b e => ⟨.inl e, by have := hS b e; omega⟩) (fun b e h => hqS (e ▸ h)) hB (.leaf _ q k v rfl hnq) hnn
  · rw [if_neg hb0] at hB ⊢
    exact .fork _ S (fun b => b = q) f a (kh k) t (.leaf k v) p q (.inr (.inr ⟨hf, hfl⟩)) (fun b e => ⟨.inl e, by have := hS b e; omega⟩) (fun b e => ⟨.inr (.inl e), by omega⟩) (fun b e h => hqS (h ▸ e)) hB hnn (.leaf _ q k v rfl hnq)
theorem hash_of_ok {t : Tr} (h : TrOK t) : t.hash.size = 32 := by
  cases t with
  | leaf k v => exact kh_size (by have := (okK_iff.1 h.1).2; omega)
  | fork a hh l r => exact h.2.1
end Go.Proofs.YtgmaappilopgbaaDoor.Sha
namespace Go.Proofs.YtgmaappilopgbaaDoor.Sha
open Go.ChangeShapes Go.WideShapes Go.ChangeAt Go.RowKit
set_option linter.unusedVariables false
set_option linter.unusedSimpArgs false

theorem with_end0 {w w1 w2 : World} {S Sl Sr : Nat → Prop} {p q a pr p' : Nat} {hv : ByteArray} {l' r : Tr} (hw : Below w.heap.size w w1) (hsz : w1.heap.size = w.heap.size) (hp : S p) (h1 : ∀ b, Sl b → S b ∧ b ≠ p) (h2 : ∀ b, Sr b → S b ∧ b ≠ p) (h3 : ∀ b, Sl b → ¬ Sr b) (hS : ∀ b, S b → b < w.heap.size) (hqS : ¬ S q)
    {pl : Nat} (X : Blk w1 p (fkC hv a pl pr)) (hr : Nd w1 Sr pr r) (hn : Nd w2 (fun b => Sl b ∨ b = q ∨ (w1.heap.size ≤ b ∧ b < w2.heap.size)) p' l') (hT : Touch Sl w1 w2) :
    WithR S q (.fork a hv l' r) w (.returned (.pointer (some ⟨p, 0, none⟩))) (w2.setCell ⟨p, 4, none⟩ (.pointer (some ⟨p', 0, none⟩))) := by
  have X2 := X.kept hT (fun e => (h1 p e).2 rfl)
  have XS := X2.set 4 (.pointer (some ⟨p', 0, none⟩)) (by simp [fkC])
  have tp := (Touch.refl (fun b => b = p) w2).setCell ⟨p, 4, none⟩ (.pointer (some ⟨p', 0, none⟩)) (fun _ => rfl)
  have hts := tp.size
  have hps := hS p hp
  have NK := hn.touch tp (fun b hb e => by
    rcases hb with hb | hb | hb
    · exact (h1 b hb).2 e
    · exact hqS (by rw [← hb, e]; exact hp)
    · omega)
  have NO := (hr.touch hT (fun b hb e => h3 b e hb)).touch tp (fun b hb e => (h2 b hb).2 e)
  refine ⟨p, rfl, .fork _ (fun b => Sl b ∨ b = q ∨ (w1.heap.size ≤ b ∧ b < w2.heap.size)) Sr p a hv l' r p' pr (.inl hp) (fun b hb => ?_) (fun b hb => ⟨.inl (h2 b hb).1, (h2 b hb).2⟩) (fun b hb hr' => ?_) XS NK NO, ?_⟩
  · rcases hb with hb | hb | hb
    · exact ⟨.inl (h1 b hb).1, (h1 b hb).2⟩
    · exact ⟨.inr (.inl hb), fun e => hqS (by rw [← hb, e]; exact hp)⟩
    · exact ⟨.inr (.inr ⟨by omega, by omega⟩), by omega⟩
  · rcases hb with hb | hb | hb
    · exact h3 b hb hr'
    · exact hqS (by rw [← hb]; exact (h2 b hr').1)
    · have := hS b (h2 b hr').1
      omega
  · exact ((Touch.ofBelow (T := S) hw).trans hT (fun b _ e => (h1 b e).1)).trans tp (fun b _ e => by rw [e]; exact hp)
theorem with_end1 {w w1 w2 : World} {S Sl Sr : Nat → Prop} {p q a pl p' : Nat} {hv : ByteArray} {l r' : Tr} (hw : Below w.heap.size w w1) (hsz : w1.heap.size = w.heap.size) (hp : S p) (h1 : ∀ b, Sl b → S b ∧ b ≠ p) (h2 : ∀ b, Sr b → S b ∧ b ≠ p) (h3 : ∀ b, Sl b → ¬ Sr b) (hS : ∀ b, S b → b < w.heap.size) (hqS : ¬ S q)
    {pr : Nat} (X : Blk w1 p (fkC hv a pl pr)) (hl : Nd w1 Sl pl l) (hn : Nd w2 (fun b => Sr b ∨ b = q ∨ (w1.heap.size ≤ b ∧ b < w2.heap.size)) p' r') (hT : Touch Sr w1 w2) :
    WithR S q (.fork a hv l r') w (.returned (.pointer (some ⟨p, 0, none⟩))) (w2.setCell ⟨p, 5, none⟩ (.pointer (some ⟨p', 0, none⟩))) := by
  have X2 := X.kept hT (fun e => (h2 p e).2 rfl)
  have XS := X2.set 5 (.pointer (some ⟨p', 0, none⟩)) (by simp [fkC])
  have tp := (Touch.refl (fun b => b = p) w2).setCell ⟨p, 5, none⟩ (.pointer (some ⟨p', 0, none⟩)) (fun _ => rfl)
  have hts := tp.size
  have hps := hS p hp
  have NK := hn.touch tp (fun b hb e => by
    rcases hb with hb | hb | hb
    · exact (h2 b hb).2 e
    · exact hqS (by rw [← hb, e]; exact hp)
    · omega)
  have NO := (hl.touch hT (fun b hb e => h3 b hb e)).touch tp (fun b hb e => (h1 b hb).2 e)
  refine ⟨p, rfl, .fork _ Sl (fun b => Sr b ∨ b = q ∨ (w1.heap.size ≤ b ∧ b < w2.heap.size)) p a hv l r' pl p' (.inl hp) (fun b hb => ⟨.inl (h1 b hb).1, (h1 b hb).2⟩) (fun b hb => ?_) (fun b hl' hb => ?_) XS NO NK, ?_⟩
  · rcases hb with hb | hb | hb
    · exact ⟨.inl (h2 b hb).1, (h2 b hb).2⟩
    · exact ⟨.inr (.inl hb), fun e => hqS (by rw [← hb, e]; exact hp)⟩
    · exact ⟨.inr (.inr ⟨by omega, by omega⟩), by omega⟩
  · rcases hb with hb | hb | hb
    · exact h3 b hl' hb
    · exact hqS (by rw [← hb]; exact (h1 b hl').1)
    · have := hS b (h1 b hl').1
      omega
  · exact ((Touch.ofBelow (T := S) hw).trans hT (fun b _ e => (h2 b e).1)).trans tp (fun b _ e => by rw [e]; exact hp)
set_option maxRecDepth 100000 in
set_option maxHeartbeats 4000000 in
theorem with_any (k v : ByteArray) (at_ : Nat) (hat : at_ ≤ 256) (hk : k.size ≤ 65536) : ∀ (t : Tr) (m : Nat) (w : World) (S : Nat → Prop) (p q : Nat), Nd w S p t → Rise m t → Sep t → TrOK t → (∀ b, S b → b < w.heap.size) → Blk w q (lfC k v) → ¬ S q → at_ = fd (kh (leadL (kh k) t).1) (kh k) →
    Calls Tryd.prog 81 #[.pointer (some ⟨p, 0, none⟩), .pointer (some ⟨q, 0, none⟩), .int .i64 at_] w fun e w' => WithR S q (putT (kh k) at_ k v t) w e w' := by
  intro t
  induction t with
  | leaf k' v' =>
    intro m w S p q hn hr hs ho hS hq hqS hfd
    have HNF := hide (fun (ha : at_ < 256) => newFork_nd (a := at_) hn (hash_of_ok ho) hS hq hqS hk ha (by
      have h1 := ((fd_iff (kh (leadL (kh k) (.leaf k' v')).1) (kh k) at_ ha).1 hfd.symm).2
      exact fun e => h1 e.symm))
    cases hn with
    | leaf S p k' v' h0 h1 =>
      have x3 := h1.cell 3 rfl
      by_cases h256 : at_ = 256
      · have HG : Hid (WithR S q (putT (kh k) at_ k v (.leaf k' v')) w (.returned (.pointer (some ⟨q, 0, none⟩))) w) := hide (by
          unfold putT
          rw [if_pos h256]
          exact ⟨q, rfl, .leaf _ q k v (.inr (.inl rfl)) hq, Touch.refl _ _⟩)
        subst h256
        clear h1 hr hs ho hq hfd HNF
        go_enter Tryd.func81, Tryd.ntmps81
        go_wp2_with fail
        go_ret
        exact unhide HG
      · have HF := hide (unhide HNF (by omega))
        have HP : Hid (putT (kh k) at_ k v (.leaf k' v') = forkT at_ (kh k) k v (.leaf k' v')) := hide (by conv => lhs; unfold putT; rw [if_neg h256])
        have hb1 : ¬ (256 : Int) < (at_ : Int) := by omega
        have hb2 : ((at_ : Int) == 256) = false := by rw [beq_eq_false_iff_ne]; omega
        clear h1 hr hs ho hq hfd HNF
        generalize forkT at_ (kh k) k v (.leaf k' v') = R at *
        go_enter Tryd.func81, Tryd.ntmps81
        go_wp2_with fail
        refine (unhide HF).mono ?_
        rintro e w2 ⟨p2, rfl, h2⟩
        have HG : Hid (WithR S q (putT (kh k) at_ k v (.leaf k' v')) w (.returned (.pointer (some ⟨p2, 0, none⟩))) w2) := hide (by rw [unhide HP]; exact ⟨p2, rfl, h2⟩)
        clear h2
        go_wp2_with fail
        go_ret
        exact unhide HG
  | fork a hv l r ihl ihr =>
    intro m w S p q hn hr hs ho hS hq hqS hfd
    have hbit := lead_bit (kh k) hr hs
    have HNF := hide (fun (ha : at_ < a) => newFork_nd (a := at_) hn (hash_of_ok ho) hS hq hqS hk (by have := hr.2.1; omega) (by
      have h1 := ((fd_iff (kh (leadL (kh k) (.fork a hv l r)).1) (kh k) at_ (by have := hr.2.1; omega)).1 hfd.symm).2
      have h2 := lead_alike (kh k) (.fork a hv l r) m hr hs at_ ha
      exact fun e => h1 (h2.trans e.symm)))
    have hne : at_ ≠ a := fun e => by
      have h1 := ((fd_iff (kh (leadL (kh k) (.fork a hv l r)).1) (kh k) at_ (by have := hr.2.1; omega)).1 hfd.symm).2
      rw [e] at h1
      exact h1 hbit
    cases hn with
    | fork S Sl Sr p a hv l r pl pr h0 h1 h2 h3 h4 h5 h6 =>
      have x3 := h4.cell 3 rfl
      obtain ⟨r0, r1, r2, r3⟩ := hr
      by_cases hlt : a < at_
      · have X := hide h4
        have x4 := h4.cell 4 rfl
        have x5 := h4.cell 5 rfl
        have q2 := hq.cell 2 rfl
        have hlt' : (a : Int) < (at_ : Int) := by omega
        have HB := hide (fun wx => hashBit_any (kh k) a wx (kh_size hk) r1)
        have HS := hide (And.intro h0 (And.intro h1 (And.intro h2 (And.intro h3 (And.intro hS hqS)))))
        have HQ := hide hq
        have HN5 := hide h5
        have HN6 := hide h6
        obtain ⟨s0, s1, s2, s3, s4⟩ := hs
        obtain ⟨o0, o1, o2, o3⟩ := ho
        rcases bitN_01 (kh k) a with hb | hb
        · have HP : Hid (putT (kh k) at_ k v (.fork a hv l r) = .fork a hv (putT (kh k) at_ k v l) r) := hide (by conv => lhs; unfold putT; rw [if_pos hlt, if_pos hb])
          have hfl : at_ = fd (kh (leadL (kh k) l).1) (kh k) := by rw [hfd]; conv => lhs; unfold leadL; rw [if_pos hb]
          have HC : Hid (∀ wx, Below w.heap.size w wx → wx.heap.size = w.heap.size → Calls Tryd.prog 81 #[.pointer (some ⟨pl, 0, none⟩), .pointer (some ⟨q, 0, none⟩), .int .i64 at_] wx fun e w' => WithR Sl q (putT (kh k) at_ k v l) wx e w') := hide (fun wx hbx hsx => ihl _ wx Sl pl q ((unhide HN5).blw hbx) r2 s3 o2 (fun b hb => by rw [hsx]; exact hS b (h1 b hb).1) ((unhide HQ).below hbx) (fun e => hqS (h1 q e).1) hfl)
          rw [hb] at HB
          clear h1 h2 h3 h4 h5 h6 h0 hS hqS hq hbit HNF hne hfd hfl ihl ihr s0 s1 s2 s3 s4 o0 o1 o2 o3 r0 r2 r3
          generalize putT (kh k) at_ k v l = D at *
          generalize putT (kh k) at_ k v (.fork a hv l r) = R at *
          generalize kh k = hh at *
          go_enter Tryd.func81, Tryd.ntmps81
          go_wp2_with fail
          go_quiet ((go_at_call 80; exact Calls.quiet_of_same (unhide HB _)))
          have BD := hide (below_drewN (Below.refl w.heap.size w) nq)
          have X1 := (unhide X).below (unhide BD)
          have y4 := X1.cell 4 rfl
          have g4 := X1.fro 4
          have HX1 := hide X1
          have HE : Hid ((w.drewN nq).heap.size = w.heap.size) := rfl
          clear x3 x4 x5 q2 X1
          generalize w.drewN nq = w1 at *
          go_wp2_with fail
          go_region_law ((go_simp; go_at_call 81; refine (unhide HC _ (below_drewN (unhide BD) 1) (unhide HE)).mono ?_; rintro e w2 ⟨p2, rfl, hn2, hT2⟩; (have X2 := ((unhide HX1).drewN 1).kept hT2 (fun e => ((unhide HS).2.1 p e).2 rfl)); (have z4 := X2.cell 4 rfl); (have h4 := X2.fro 4); go_simp))
          all_goals
            have HG := hide (with_end0 (q := q) (below_drewN (unhide BD) 1) (unhide HE) (unhide HS).1 (unhide HS).2.1 (unhide HS).2.2.1 (unhide HS).2.2.2.1 (unhide HS).2.2.2.2.1 (unhide HS).2.2.2.2.2 ((unhide HX1).drewN 1) ((unhide HN6).blw (below_drewN (unhide BD) 1)) hn2 hT2)
            rw [← unhide HP] at HG
            clear hn2 hT2 X2 z4 h4
            go_wp2_with fail
            go_ret
            exact unhide HG
        · have HP : Hid (putT (kh k) at_ k v (.fork a hv l r) = .fork a hv l (putT (kh k) at_ k v r)) := hide (by conv => lhs; unfold putT; rw [if_pos hlt, if_neg (by omega)])
          have hfl : at_ = fd (kh (leadL (kh k) r).1) (kh k) := by rw [hfd]; conv => lhs; unfold leadL; rw [if_neg (by omega)]
          have HC : Hid (∀ wx, Below w.heap.size w wx → wx.heap.size = w.heap.size → Calls Tryd.prog 81 #[.pointer (some ⟨pr, 0, none⟩), .pointer (some ⟨q, 0, none⟩), .int .i64 at_] wx fun e w' => WithR Sr q (putT (kh k) at_ k v r) wx e w') := hide (fun wx hbx hsx => ihr _ wx Sr pr q ((unhide HN6).blw hbx) r3 s4 o3 (fun b hb => by rw [hsx]; exact hS b (h2 b hb).1) ((unhide HQ).below hbx) (fun e => hqS (h2 q e).1) hfl)
          rw [hb] at HB
          clear h1 h2 h3 h4 h5 h6 h0 hS hqS hq hbit HNF hne hfd hfl ihl ihr s0 s1 s2 s3 s4 o0 o1 o2 o3 r0 r2 r3
          generalize putT (kh k) at_ k v r = D at *
          generalize putT (kh k) at_ k v (.fork a hv l r) = R at *
          generalize kh k = hh at *
          go_enter Tryd.func81, Tryd.ntmps81
          go_wp2_with fail
          go_quiet ((go_at_call 80; exact Calls.quiet_of_same (unhide HB _)))
          have BD := hide (below_drewN (Below.refl w.heap.size w) nq)
          have X1 := (unhide X).below (unhide BD)
          have y5 := X1.cell 5 rfl
          have g5 := X1.fro 5
          have HX1 := hide X1
          have HE : Hid ((w.drewN nq).heap.size = w.heap.size) := rfl
          clear x3 x4 x5 q2 X1
          generalize w.drewN nq = w1 at *
          go_wp2_with fail
          go_region_law ((go_simp; go_at_call 81; refine (unhide HC _ (below_drewN (unhide BD) 1) (unhide HE)).mono ?_; rintro e w2 ⟨p2, rfl, hn2, hT2⟩; (have X2 := ((unhide HX1).drewN 1).kept hT2 (fun e => ((unhide HS).2.2.1 p e).2 rfl)); (have z4 := X2.cell 5 rfl); (have h4 := X2.fro 5); go_simp))
          all_goals
            have HG := hide (with_end1 (q := q) (below_drewN (unhide BD) 1) (unhide HE) (unhide HS).1 (unhide HS).2.1 (unhide HS).2.2.1 (unhide HS).2.2.2.1 (unhide HS).2.2.2.2.1 (unhide HS).2.2.2.2.2 ((unhide HX1).drewN 1) ((unhide HN5).blw (below_drewN (unhide BD) 1)) hn2 hT2)
            rw [← unhide HP] at HG
            clear hn2 hT2 X2 z4 h4
            go_wp2_with fail
            go_ret
            exact unhide HG
      · have HF := hide (unhide HNF (by omega))
        have HP : Hid (putT (kh k) at_ k v (.fork a hv l r) = forkT at_ (kh k) k v (.fork a hv l r)) := hide (by conv => lhs; unfold putT; rw [if_neg hlt])
        have hb1 : ¬ (a : Int) < (at_ : Int) := by omega
        have hb2 : ((at_ : Int) == 256) = false := by rw [beq_eq_false_iff_ne]; omega
        clear h1 h2 h3 h4 h5 h6 h0 hS hqS hq hbit HNF hne hfd ihl ihr hs ho r0 r2 r3
        generalize forkT at_ (kh k) k v (.fork a hv l r) = R at *
        go_enter Tryd.func81, Tryd.ntmps81
        go_wp2_with fail
        refine (unhide HF).mono ?_
        rintro e w2 ⟨p2, rfl, h2⟩
        have HG : Hid (WithR S q (putT (kh k) at_ k v (.fork a hv l r)) w (.returned (.pointer (some ⟨p2, 0, none⟩))) w2) := hide (by rw [unhide HP]; exact ⟨p2, rfl, h2⟩)
        clear h2
        go_wp2_with fail
        go_ret
        exact unhide HG
end Go.Proofs.YtgmaappilopgbaaDoor.Sha
namespace Go.Proofs.YtgmaappilopgbaaDoor.Sha
open Go.ChangeShapes Go.WideShapes Go.ChangeAt Go.RowKit
set_option linter.unusedVariables false
set_option linter.unusedSimpArgs false

theorem lvs_len : ∀ t : Tr, t.lvs.length = t.lvN
  | .leaf _ _ => rfl
  | .fork _ _ l r => by show (l.lvs ++ r.lvs).length = l.lvN + r.lvN; rw [List.length_append, lvs_len l, lvs_len r]
theorem fd_full {x y : ByteArray} (hx : x.size = 32) (hy : y.size = 32) (h : fd x y = 256) : x = y := by
  have hs : ∀ k, k ≤ 32 → ∀ j, j < k → byN x j = byN y j := by
    intro k
    induction k with
    | zero => intro _ j hj; omega
    | succ k ih =>
      intro hk j hj
      by_cases e : j = k
      · subst e
        by_cases hd : byN x j ^^^ byN y j = 0
        · exact Nat.eq_of_testBit_eq fun i => by
            have h1 := congrArg (fun n => n.testBit i) hd
            simp only [Nat.testBit_xor, Nat.zero_testBit] at h1
            generalize (byN x j).testBit i = b1 at *
            generalize (byN y j).testBit i = b2 at *
            cases b1 <;> cases b2 <;> simp_all
        · have h1 := fd_byte x y j (by omega) (ih (by omega)) hd
          have hlt : byN x j ^^^ byN y j < 256 := Nat.xor_lt_two_pow (n := 8) (byN_lt x j) (byN_lt y j)
          have h2 := (bl_bits ⟨byN x j ^^^ byN y j, hlt⟩ hd).1
          dsimp only at h2
          omega
      · exact ih (by omega) j (by omega)
  have hx2 : x.data.toList.length = 32 := by simpa using hx
  have hy2 : y.data.toList.length = 32 := by simpa using hy
  have : x.data.toList = y.data.toList := by
    apply List.ext_getElem?
    intro j
    by_cases hj : j < 32
    · have h1 := hs 32 (Nat.le_refl _) j hj
      unfold byN at h1
      have h2 := UInt8.toNat_inj.1 h1
      rw [List.getD_eq_getElem?_getD, List.getD_eq_getElem?_getD, List.getElem?_eq_getElem (by omega), List.getElem?_eq_getElem (by omega)] at h2
      rw [List.getElem?_eq_getElem (by omega), List.getElem?_eq_getElem (by omega)]
      simpa using h2
    · rw [List.getElem?_eq_none (by omega), List.getElem?_eq_none (by omega)]
  cases x; cases y
  simpa using congrArg List.toArray this
theorem fd_ne {x y : ByteArray} (hx : x.size = 32) (hy : y.size = 32) : fd x y < 256 ↔ x ≠ y := by
  have h := fd_le x y
  constructor
  · intro h1 e
    subst e
    have := fd_same x x (fun _ _ => rfl)
    omega
  · intro h1
    rcases Nat.lt_or_ge (fd x y) 256 with h2 | h2
    · exact h2
    · exact absurd (fd_full hx hy (by omega)) h1
def lvO : Option Tr → Nat
  | none => 0
  | some t => t.lvN
theorem sizeO_any {w : World} {S : Nat → Prop} {pv : Option Addr} {o : Option Tr} (hp : PtrM w S pv o) (hok : OkO o) (h40 : lvO o ≤ 1000) :
    Calls Tryd.prog 41 #[.pointer pv] w fun e w' => e = .returned (.int .i64 (lvO o)) ∧ Below w.heap.size w w' := by
  cases o with
  | none =>
    obtain rfl : pv = none := hp
    exact callsIn_wide.1 (size_in 3 (Nat.le_refl _) none w none rfl (by simp [LO.list]))
  | some t =>
    obtain ⟨p, rfl, hn⟩ := hp
    have := size_any hn hok (by rw [lvs_len]; exact h40)
    rw [lvs_len] at this
    exact this
/-- What a map is with a key's value put into it. -/
def putAt (t : Tr) (key : ByteArray) : Nat := fd (kh (leadL (kh key) t).1) (kh key)
def putO (o : Option Tr) (key val : ByteArray) : Tr := match o with
  | none => .leaf key val
  | some t => putT (kh key) (putAt t key) key val t
set_option maxRecDepth 100000 in
set_option maxHeartbeats 2000000 in
theorem put_any (key val : ByteArray) (hk : key.size ≤ 24) (w : World) (S : Nat → Prop) (pv : Option Addr) (q : Nat) (o : Option Tr) (hp : PtrM w S pv o) (hri : RiseO o) (hsp : SepO o) (hok : OkO o) (hS : ∀ b, S b → b < w.heap.size) (hq : Blk w q (lfC key val)) (hqS : ¬ S q) :
    Calls Tryd.prog 43 #[.pointer pv, .pointer (some ⟨q, 0, none⟩)] w fun e w' => WithR S q (putO o key val) w e w' := by
  cases o with
  | none =>
    obtain rfl : pv = none := hp
    have HR : Hid (WithR S q (putO none key val) w (.returned (.pointer (some ⟨q, 0, none⟩))) w) := hide ⟨q, rfl, Nd.leaf _ q key val (.inr (.inl rfl)) hq, Touch.refl _ _⟩
    clear hq hqS hS
    go_enter Tryd.func43, Tryd.ntmps43
    go_wp2_with fail
    go_ret
    exact unhide HR
  | some t =>
    obtain ⟨p, rfl, hn⟩ := hp
    have hkk := kh_size (k := key) (by omega)
    have hlo := lead_ok (kh key) t hok
    have hlk := kh_size (k := (leadL (kh key) t).1) (by have := (okK_iff.1 hlo.1).2; omega)
    have HLD := hide (fun wx (hbx : Below w.heap.size w wx) => lead_any (kh key) hkk wx _ p t (hn.blw hbx) hri)
    have HFD := hide (fun wx => firstDiff_any (kh (leadL (kh key) t).1) (kh key) wx hlk hkk)
    have HWI := hide (fun n => with_any key val (fd (kh (leadL (kh key) t).1) (kh key)) (fd_le _ _) (by omega) t 0 (w.drewN n) S p q (hn.blw (below_drewN (Below.refl _ _) n)) hri hsp.1 hok hS (hq.drewN n) hqS rfl)
    have HPO : Hid (putO (some t) key val = putT (kh key) (fd (kh (leadL (kh key) t).1) (kh key)) key val t) := rfl
    rw [unhide HPO]
    have q2 : w.cell? ⟨q, 2, none⟩ = some (.string (kh key)) := hq.cell 2 rfl
    generalize hlh : kh (leadL (kh key) t).1 = lh at *
    have HLH := hide hlh
    clear hlh
    generalize fd lh (kh key) = A at *
    generalize putT (kh key) A key val t = D at *
    generalize kh key = hh at *
    clear hlo hlk hkk hn hq hS hqS HPO
    go_enter Tryd.func43, Tryd.ntmps43
    go_wp2_with fail
    go_region_law (first
      | (go_simp; go_at_call 81; refine (unhide HWI _).mono ?_; rintro e w7 ⟨p7, rfl, hn7, hT7⟩; go_simp)
      | (go_simp; go_at_call 82; refine (unhide HFD _).mono ?_; rintro e w6 ⟨rfl, n6, rfl⟩; go_simp)
      | (go_simp; go_at_call 42; refine (unhide HLD _ (below_drewN (Below.refl _ _) 1)).mono ?_; rintro e w5 ⟨ql, rfl, hB5, n5, rfl⟩; (have cl : w.cell? ⟨ql, 2, none⟩ = some (.string lh) := (by have h := hB5.cell 2 rfl; rw [unhide HLH] at h; exact h)); go_simp))
    all_goals
      have HN7 := hide (And.intro hn7 hT7)
      clear hn7 hT7
      go_wp2_with fail
      go_ret
      refine ⟨_, rfl, ?_, (Touch.ofBelow (below_drewN (Below.refl _ _) _)).trans (unhide HN7).2 (fun _ _ h => h)⟩
      exact (unhide HN7).1
end Go.Proofs.YtgmaappilopgbaaDoor.Sha
namespace Go.Proofs.YtgmaappilopgbaaDoor
open Go.ChangeShapes Go.WideShapes Go.ChangeAt Go.RowKit
set_option linter.unusedVariables false

/-- n in m bytes, the higher ones first. -/
def encN (n : Int) : Nat → List Int
  | 0 => []
  | m + 1 => (n / 256 ^ m % 256) :: encN n m
def encAll (m : Nat) : List Int → List Int
  | [] => []
  | n :: r => encN n m ++ encAll m r
theorem encN_len (n : Int) (m : Nat) : (encN n m).length = m := by
  induction m with
  | zero => rfl
  | succ m ih => simp [encN, ih]
theorem encAll_len (m : Nat) (l : List Int) : (encAll m l).length = m * l.length := by
  induction l with
  | nil => rfl
  | cons n r ih => simp [encAll, encN_len, ih, Nat.mul_add]; omega

theorem encAll_drop (m : Nat) (l : List Int) (k : Nat) (h : k < l.length) : encAll m (l.drop k) = encN (l.getD k 0) m ++ encAll m (l.drop (k + 1)) := by
  rw [List.drop_eq_getElem_cons h, List.getD_eq_getElem?_getD, List.getElem?_eq_getElem h]; rfl
theorem gather_len {m k : Nat} {xs ys ns : List Int} (h : ys ++ encAll m (ns.drop k) = xs ++ encAll m ns) (hm : m ≤ 4) (hx : xs.length ≤ 70000) (hn : ns.length ≤ 4096) : ys.length ≤ 86400 := by
  have e := congrArg List.length h
  rw [List.length_append, List.length_append, encAll_len m ns] at e
  have : m * ns.length ≤ 4 * 4096 := Nat.mul_le_mul hm hn
  omega
theorem gather_len2 {m j : Nat} {n : Int} {zs ys : List Int} (h : zs ++ encN n j = ys ++ encN n m) (hm : m ≤ 4) (hy : ys.length ≤ 86400) : zs.length ≤ 86404 := by
  have e := congrArg List.length h
  rw [List.length_append, List.length_append, encN_len, encN_len] at e
  omega
theorem wrapI (n : Int) (h0 : 0 ≤ n) (h1 : n < 9223372036854775808) : IntKind.i64.wrap n = n := by
  simp only [IntKind.wrap, IntKind.bits, IntKind.signed]
  simp
  omega
theorem wrapB (n : Int) (q : Nat) : IntKind.u8.wrap (n / 2 ^ (8 * (q : Int)).toNat) = n / 256 ^ q % 256 := by
  have e : (2 : Int) ^ (8 * (q : Int)).toNat = 256 ^ q := by
    rw [show (8 * (q : Int)).toNat = 8 * q by omega, Int.pow_mul]; rfl
  rw [e]; simp [IntKind.wrap, IntKind.bits, IntKind.signed]
theorem encN_range (n : Int) (m : Nat) : ∀ i, 0 ≤ (encN n m).getD i 0 ∧ (encN n m).getD i 0 ≤ 255 := by
  induction m with
  | zero => intro i; simp [encN]
  | succ m ih =>
    intro i
    cases i with
    | zero => simp only [encN, List.getD_cons_zero]; omega
    | succ i => simp only [encN, List.getD_cons_succ]; exact ih i
theorem one_range {x : Int} (h0 : 0 ≤ x) (h1 : x ≤ 255) : ∀ i, 0 ≤ [x].getD i 0 ∧ [x].getD i 0 ≤ 255 := fun i => by
  cases i with
  | zero => simp; omega
  | succ i => simp

set_option maxRecDepth 100000 in
set_option maxHeartbeats 1000000 in
theorem numbers_any (b m : Nat) (v : Value) (xs ns : List Int) (L off cap : Nat) (w : World) (h : Wr w b v xs) (hm : m ≤ 4) (hL : L < w.heap.size) (hLb : L ≠ b) (hLv : v.ownBlock ≠ some L)
    (hc : ∀ i, i < ns.length → w.cell? ⟨L, off + i, none⟩ = some (.int .i64 (ns.getD i 0))) (hr : ∀ i, 0 ≤ ns.getD i 0 ∧ ns.getD i 0 < 4294967296) (hlen : ns.length ≤ 4096) (hxl : xs.length ≤ 70000) :
    Calls Tryd.prog 103 #[.pointer (some ⟨b, 0, none⟩), .int .i64 m, .slice (some ⟨L, off, none⟩) ns.length cap] w fun e w' => e = .returned (.tuple #[]) ∧ ∃ v', Wr w' b v' (xs ++ encAll m ns) ∧ Touch (WT b v) w w' ∧ Lies v v' w.heap.size := by
  obtain ⟨i0, hi, hz0, hz1, hz2⟩ := info_parts info5
  have HW := hide h
  have HC := hide hc
  have HR := hide hr
  clear h hc hr
  go_enter Tryd.func103, Tryd.ntmps103
  go_wp2_with fail
  go_loopw [7, 8, 11] (fun _ _ i wr => ∃ (k : Nat) (u : Value) (ys : List Int), k ≤ ns.length ∧ i = .int .i64 k ∧ Wr wr b u ys ∧ ys ++ encAll m (ns.drop k) = xs ++ encAll m ns ∧ Touch (WT b v) w wr ∧ Lies v u w.heap.size) (fun _ _ i _ => ns.length - (intOf i).toNat)
  case atStart => exact ⟨0, v, xs, Nat.zero_le _, rfl, unhide HW, rfl, Touch.refl _ _, Lies.refl _ _⟩
  case round =>
    obtain ⟨k, u, ys, hk, rfl, hW, hE, hT, hLi⟩ := hrel
    by_cases hlt : k < ns.length
    · have hs1 : wr.cell? ⟨L, off + k, none⟩ = some (.int .i64 (ns.getD k 0)) := by
        rw [hT.cell (p := ⟨L, off + k, none⟩) hL (fun hx => by rcases hx with h1 | h1; exact hLb h1; exact hLv h1)]
        exact unhide HC k hlt
      have hr1 := unhide HR k
      have hk0 : (0 : Int) ≤ (k : Int) := by omega
      have hk1 : (k : Int) < (ns.length : Int) := by omega
      have HR2 := hide (And.intro hW (And.intro hE (And.intro hT hLi)))
      have hyl := gather_len hE hm hxl hlen
      have HD := hide (encAll_drop m ns k hlt)
      clear hW hE hT hLi
      generalize ns.getD k 0 = n at *
      go_wp2_with fail
      obtain ⟨wo, rfl⟩ : ∃ wo : World, wo = wr := ⟨_, rfl⟩
      go_loopw [8] (fun i wr => ∃ (j : Nat) (u' : Value) (zs : List Int), j ≤ m ∧ (∃ x : Int, x = (j : Int) - 1 ∧ i = .int .i64 x) ∧ Wr wr b u' zs ∧ zs ++ encN n j = ys ++ encN n m ∧ Touch (WT b v) w wr ∧ Lies v u' w.heap.size) (fun i _ => ((intOf i) + 1).toNat)
      case atStart => 
        obtain ⟨hW, hE, hT, hLi⟩ := unhide HR2
        exact ⟨m, u, ys, Nat.le_refl _, ⟨_, rfl, rfl⟩, hW, rfl, hT, hLi⟩
      case round =>
        obtain ⟨j, u', zs, hj, ⟨x, hx, rfl⟩, hW', hE', hT', hLi'⟩ := hrel
        have hzl := gather_len2 hE' hm hyl
        by_cases hj0 : 0 < j
        · obtain ⟨q, rfl⟩ : ∃ q, j = q + 1 := ⟨j - 1, by omega⟩
          obtain rfl : x = (q : Int) := by omega
          have hq : q ≤ 3 := by omega
          clear hx
          have hcell := hW'.1
          have hfr := hW'.2.1
          have hbl := hW'.2.2.1
          have HW2 := hide hW'
          have HE2 := hide hE'
          have HT2 := hide hT'
          have HL2 := hide hLi'
          have hne : some b ≠ u'.ownBlock := fun e => by have := (hW'.row b e.symm).1; omega
          have HN := hide hne
          clear hW' hE' hT' hLi' hne
          have m1 : IntKind.i64.wrap (8 * (q : Int)) = 8 * (q : Int) := wrapI _ (by omega) (by omega)
          have m2 := wrapB n q
          have p0 : 0 ≤ 8 * (q : Int) := by omega
          have p1 : 8 * (q : Int) ≤ 64 := by omega
          go_wp2_with fail
          go_region_law (refine step_append_lies _ (by rfl) _ _ _ (by rfl) (b + 1) 5 i0 _ 1 1 Tryd.underlying49 hi hz0 hz1 hz2 rfl (by omega) u' zs.length (zs.map (Value.int .u8)) (by rfl) (((unhide HW2).alloc _).drew).2.2.2.1 ⟨wr.heap.size, 0, none⟩ 1 1 [_] (by rfl) (by rfl) (World.news_of_block (cs := #[_]) (t := 5) (fr := (0, 0)) (heap_alloc_new wr _)) (by simp [Value.oneCell']) (by omega) (by unfold maxLen; omega) (by omega) (by simp; omega) (wr.heap.size + 1) (by simp) ?_; intro gg capg w1 hown1 hgrow hat hlt1; have hc1 : w1.cell? ⟨b, 0, none⟩ = some u' := (hgrow.cell_far ⟨b, 0, none⟩ (by simp; omega) (unhide HN)).trans (((unhide HW2).alloc _).drew).1; have hf1 : w1.frozen? ⟨b, 0, none⟩ = false := (hgrow.frozen_far ⟨b, 0, none⟩ (by simp; omega) (unhide HN)).trans (((unhide HW2).alloc _).drew).2.1)
          all_goals
            have hx0 : 0 ≤ n / 256 ^ q % 256 := by omega
            have hx1 : n / 256 ^ q % 256 ≤ 255 := by omega
            have R := hide ((unhide HW2).pushed hown1 hgrow hat hx0 hx1)
            have hE2 : Hid ((zs ++ [n / 256 ^ q % 256]) ++ encN n q = ys ++ encN n m) := hide (by rw [List.append_assoc]; exact unhide HE2)
            clear hown1 hgrow hat hlt1 hc1 hf1 m2
            generalize n / 256 ^ q % 256 = y at *
            go_wp2_with fail
            go_roundw
            case rel => exact ⟨q, _, _, by omega, ⟨_, rfl, rfl⟩, (unhide R).1, unhide hE2, (unhide HT2).wr (unhide HL2) (unhide R).2.1, (unhide HL2).trans (unhide R).2.2 (unhide HT2).size⟩
            case measure => simp [intOf]
        · obtain rfl : j = 0 := by omega
          obtain rfl : x = -1 := by omega
          have hE3 := hide (by have := hE'; simp only [encN, List.append_nil] at this; exact this)
          have R := hide (And.intro hW' (And.intro hT' hLi'))
          clear hW' hE' hT' hLi' hx
          go_wp2_with fail
          go_roundw
          case rel => exact ⟨k + 1, u', zs, by omega, by go_num, (unhide R).1, by rw [unhide hE3, List.append_assoc, ← unhide HD]; exact (unhide HR2).2.1, (unhide R).2.1, (unhide R).2.2⟩
          case measure => simp [intOf]; omega
    · obtain rfl : k = ns.length := by omega
      have R := hide (And.intro hW (And.intro hE (And.intro hT hLi)))
      clear hW hE hT hLi
      go_wp2_with fail
      go_end0
      refine ⟨rfl, u, ?_, (unhide R).2.2.1, (unhide R).2.2.2⟩
      have e := (unhide R).2.1
      rw [List.drop_length] at e
      simp only [encAll, List.append_nil] at e
      rw [← e]; exact (unhide R).1
end Go.Proofs.YtgmaappilopgbaaDoor
namespace Go.Proofs.YtgmaappilopgbaaDoor
open Go.ChangeShapes Go.WideShapes Go.ChangeAt Go.RowKit
set_option linter.unusedVariables false

/-- Each text behind a byte that tells its length. -/
def textsL : List ByteArray → List Int
  | [] => []
  | s :: r => (s.size : Int) :: (bytesI s ++ textsL r)
def sizes : List ByteArray → Nat
  | [] => 0
  | s :: r => s.size + 1 + sizes r
theorem textsL_len (l : List ByteArray) : (textsL l).length = sizes l := by
  induction l with
  | nil => rfl
  | cons s r ih => simp [textsL, sizes, bytesI_len, ih]; omega
theorem textsL_drop (l : List ByteArray) (k : Nat) (h : k < l.length) : textsL (l.drop k) = ((l.getD k ByteArray.empty).size : Int) :: (bytesI (l.getD k ByteArray.empty) ++ textsL (l.drop (k + 1))) := by
  rw [List.drop_eq_getElem_cons h, List.getD_eq_getElem?_getD, List.getElem?_eq_getElem h]; rfl

/-- One number, in a list that was laid just now. -/
theorem numbers_new1 (b m : Nat) (mi : Int) (hmi : mi = (m : Int)) (v : Value) (xs : List Int) (n : Int) (w : World) (h : Wr w b v xs) (Lb : Nat) (hLb : w.heap.size = Lb) (hm : m ≤ 4) (h0 : 0 ≤ n) (h1 : n < 4294967296) (hxl : xs.length ≤ 70000) :
    Calls Tryd.prog 103 #[.pointer (some ⟨b, 0, none⟩), .int .i64 mi, .slice (some ⟨Lb, 0, none⟩) 1 1] (w.alloc (.cells #[.int .i64 n] 3)) fun e w' => e = .returned (.tuple #[]) ∧ ∃ v', Wr w' b v' (xs ++ encN n m) ∧ Touch (WT b v) w w' ∧ Lies v v' w.heap.size := by
  subst hmi hLb
  refine (numbers_any b m v xs [n] w.heap.size 0 1 _ (h.alloc _) hm (by simp) (by have := h.lt; omega) (fun e => by have := (h.row _ e).2; omega) (fun i hi => ?_) (fun i => ?_) (by simp) hxl).mono ?_
  · have hi0 : i = 0 := by simpa using hi
    subst hi0
    rw [World.cell?_alloc_at _ _ _ _ rfl]; rfl
  · cases i with
    | zero => simp; omega
    | succ i => simp
  · rintro e w' ⟨rfl, v', hW, hT, hL⟩
    refine ⟨rfl, v', by simpa [encAll] using hW, ((Touch.refl (WT b v) w).alloc _).trans hT (fun _ _ h => h), fun k hk => ?_⟩
    rcases hL k hk with e | e
    · exact .inl e
    · right; simp at e; omega
/-- Two numbers, likewise. -/
theorem numbers_new2 (b m : Nat) (mi : Int) (hmi : mi = (m : Int)) (v : Value) (xs : List Int) (n n2 : Int) (w : World) (h : Wr w b v xs) (Lb : Nat) (hLb : w.heap.size = Lb) (hm : m ≤ 4) (h0 : 0 ≤ n) (h1 : n < 4294967296) (h02 : 0 ≤ n2) (h12 : n2 < 4294967296) (hxl : xs.length ≤ 70000) :
    Calls Tryd.prog 103 #[.pointer (some ⟨b, 0, none⟩), .int .i64 mi, .slice (some ⟨Lb, 0, none⟩) 2 2] (w.alloc (.cells #[.int .i64 n, .int .i64 n2] 3)) fun e w' => e = .returned (.tuple #[]) ∧ ∃ v', Wr w' b v' (xs ++ (encN n m ++ encN n2 m)) ∧ Touch (WT b v) w w' ∧ Lies v v' w.heap.size := by
  subst hmi hLb
  refine (numbers_any b m v xs [n, n2] w.heap.size 0 2 _ (h.alloc _) hm (by simp) (by have := h.lt; omega) (fun e => by have := (h.row _ e).2; omega) (fun i hi => ?_) (fun i => ?_) (by simp) hxl).mono ?_
  · rcases (show i = 0 ∨ i = 1 by simp at hi; omega) with rfl | rfl
    · rw [World.cell?_alloc_at _ _ _ _ rfl]; rfl
    · rw [World.cell?_alloc_at _ _ _ _ rfl]; rfl
  · cases i with
    | zero => simp; omega
    | succ i => cases i with
      | zero => simp; omega
      | succ i => simp
  · rintro e w' ⟨rfl, v', hW, hT, hL⟩
    refine ⟨rfl, v', by simpa [encAll] using hW, ((Touch.refl (WT b v) w).alloc _).trans hT (fun _ _ h => h), fun k hk => ?_⟩
    rcases hL k hk with e | e
    · exact .inl e
    · right; simp at e; omega

/-- A writer that was laid just now. -/
theorem Wr.new (w : World) (b : Nat) (hb : w.heap.size = b) (t : TypeId) : Wr (w.alloc (.cells #[.slice none 0 0] t)) b (.slice none 0 0) [] := by
  subst hb
  refine ⟨by rw [World.cell?_alloc_at _ _ _ _ rfl]; rfl, by simp, by simp, World.ownsRow_nil _ _ _ _, fun i => by simp⟩
end Go.Proofs.YtgmaappilopgbaaDoor
namespace Go.Proofs.YtgmaappilopgbaaDoor
open Go.ChangeShapes Go.WideShapes Go.ChangeAt Go.RowKit
set_option linter.unusedVariables false

set_option maxRecDepth 100000 in
set_option maxHeartbeats 1000000 in
theorem texts_any (b : Nat) (v : Value) (xs : List Int) (ss : List ByteArray) (L off cap : Nat) (w : World) (h : Wr w b v xs) (hL : L < w.heap.size) (hLb : L ≠ b) (hLv : v.ownBlock ≠ some L)
    (hc : ∀ i, i < ss.length → w.cell? ⟨L, off + i, none⟩ = some (.string (ss.getD i ByteArray.empty))) (hr : ∀ i, (ss.getD i ByteArray.empty).size ≤ 255) (hlen : sizes ss ≤ 60000) (hxl : xs.length ≤ 10000) (hsl : ss.length ≤ 4096) :
    Calls Tryd.prog 107 #[.pointer (some ⟨b, 0, none⟩), .slice (some ⟨L, off, none⟩) ss.length cap] w fun e w' => e = .returned (.tuple #[]) ∧ ∃ v', Wr w' b v' (xs ++ textsL ss) ∧ Touch (WT b v) w w' ∧ Lies v v' w.heap.size := by
  obtain ⟨i0, hi, hz0, hz1, hz2⟩ := info_parts info5
  have HW := hide h
  have HC := hide hc
  have HR := hide hr
  clear h hc hr
  go_enter Tryd.func107, Tryd.ntmps107
  go_wp2_with fail
  go_loopw [5, 8] (fun _ i wr => ∃ (k : Nat) (u : Value) (ys : List Int), k ≤ ss.length ∧ i = .int .i64 k ∧ Wr wr b u ys ∧ ys ++ textsL (ss.drop k) = xs ++ textsL ss ∧ Touch (WT b v) w wr ∧ Lies v u w.heap.size) (fun _ i _ => ss.length - (intOf i).toNat)
  case atStart => exact ⟨0, v, xs, Nat.zero_le _, rfl, unhide HW, rfl, Touch.refl _ _, Lies.refl _ _⟩
  case round =>
    obtain ⟨k, u, ys, hk, rfl, hW, hE, hT, hLi⟩ := hrel
    by_cases hlt : k < ss.length
    · have hs1 : wr.cell? ⟨L, off + k, none⟩ = some (.string (ss.getD k ByteArray.empty)) := by
        rw [hT.cell (p := ⟨L, off + k, none⟩) hL (fun hx => by rcases hx with h1 | h1; exact hLb h1; exact hLv h1)]
        exact unhide HC k hlt
      have hr1 := unhide HR k
      have hk0 : (0 : Int) ≤ (k : Int) := by omega
      have hk1 : (k : Int) < (ss.length : Int) := by omega
      have hyl : ys.length ≤ 70000 := by
        have e := congrArg List.length hE
        rw [List.length_append, List.length_append, textsL_len ss] at e
        omega
      have HD := hide (textsL_drop ss k hlt)
      have HR2 := hide (And.intro hW (And.intro hE (And.intro hT hLi)))
      have hbl := hW.lt
      clear hW hE hT hLi
      generalize ss.getD k ByteArray.empty = s at *
      go_wp2_with fail
      refine (numbers_new1 b 1 1 rfl u ys s.size wr (unhide HR2).1 _ rfl (by omega) (by omega) (by omega) hyl).mono ?_
      rintro e w2 ⟨rfl, v2, hW2, hT2, hL2⟩
      obtain ⟨y2, hy2⟩ : ∃ y2, y2 = ys ++ encN (s.size : Int) 1 := ⟨_, rfl⟩
      rw [← hy2] at hW2
      have hcell := hW2.1
      have hfr := hW2.2.1
      have hb2 := hW2.2.2.1
      have hne : some b ≠ v2.ownBlock := fun e => by have := (hW2.row b e.symm).1; omega
      have HW2 := hide hW2
      have HN := hide hne
      have hl2 : y2.length ≤ 70001 := by rw [hy2, List.length_append, encN_len]; omega
      have hl3 : 0 < y2.length := by rw [hy2, List.length_append, encN_len]; omega
      have HT2 := hide ((unhide HR2).2.2.1.wr (unhide HR2).2.2.2 hT2)
      have HL2 := hide ((unhide HR2).2.2.2.trans hL2 (unhide HR2).2.2.1.size)
      have he : encN (s.size : Int) 1 = [(s.size : Int)] := by simp [encN]; omega
      have HE2 := hide he
      have HY := hide hy2
      clear hW2 hT2 hL2 hne he hy2
      go_wp2_with (at_builtin; refine wpList_append_str _ rfl _ _ _ _ rfl (b + 1) 5 i0 Tryd.underlying49 Tryd.underlying9 hi hz0 hz1 hz2 v2 _ _ rfl (unhide HW2).2.2.2.1 s rfl (by omega) (by omega) (by omega) ?_; intro gg capg w3 hown3 hgrow hat; have HAT := hide hat; clear hat; have hc3 : w3.cell? ⟨b, 0, none⟩ = some v2 := (hgrow.cell_far ⟨b, 0, none⟩ hb2 (unhide HN)).trans hcell; have hf3 : w3.frozen? ⟨b, 0, none⟩ = false := (hgrow.frozen_far ⟨b, 0, none⟩ hb2 (unhide HN)).trans hfr)
      have R := hide ((unhide HW2).appended (ys := bytesI s) (by rw [List.map_append, ← strCells_eq]; exact hown3) hgrow (by
        rcases unhide HAT with e | e
        · left; rw [e]; rfl
        · right; rw [e]; rfl) (bytesI_range s))
      clear hown3 hgrow HAT hc3 hf3
      go_roundw
      case rel =>
        refine ⟨k + 1, _, _, by omega, by go_num, (unhide R).1, ?_, (unhide HT2).wr (unhide HL2) (unhide R).2.1, (unhide HL2).trans (unhide R).2.2 (unhide HT2).size⟩
        rw [← (unhide HR2).2.1, unhide HD, unhide HY, unhide HE2]; simp
      case measure => simp [intOf]; omega
    · obtain rfl : k = ss.length := by omega
      have R := hide (And.intro hW (And.intro hE (And.intro hT hLi)))
      clear hW hE hT hLi
      go_wp2_with fail
      go_end0
      refine ⟨rfl, u, ?_, (unhide R).2.2.1, (unhide R).2.2.2⟩
      have e := (unhide R).2.1
      rw [List.drop_length] at e
      simp only [textsL, List.append_nil] at e
      rw [← e]; exact (unhide R).1
/-- Texts in a list that was laid just now: one, two. -/
theorem texts_new1 (b : Nat) (v : Value) (xs : List Int) (s : ByteArray) (w : World) (h : Wr w b v xs) (Lb : Nat) (hLb : w.heap.size = Lb) (h1 : s.size ≤ 255) (hxl : xs.length ≤ 10000) :
    Calls Tryd.prog 107 #[.pointer (some ⟨b, 0, none⟩), .slice (some ⟨Lb, 0, none⟩) 1 1] (w.alloc (.cells #[.string s] 9)) fun e w' => e = .returned (.tuple #[]) ∧ ∃ v', Wr w' b v' (xs ++ textsL [s]) ∧ Touch (WT b v) w w' ∧ Lies v v' w.heap.size := by
  subst hLb
  refine (texts_any b v xs [s] w.heap.size 0 1 _ (h.alloc _) (by simp) (by have := h.lt; omega) (fun e => by have := (h.row _ e).2; omega) (fun i hi => ?_) (fun i => ?_) (by simp [sizes]; omega) hxl (by simp)).mono ?_
  · have hi0 : i = 0 := by simpa using hi
    subst hi0
    rw [World.cell?_alloc_at _ _ _ _ rfl]; rfl
  · cases i with
    | zero => simpa using h1
    | succ i => simp
  · rintro e w' ⟨rfl, v', hW, hT, hL⟩
    refine ⟨rfl, v', hW, ((Touch.refl (WT b v) w).alloc _).trans hT (fun _ _ h => h), fun k hk => ?_⟩
    rcases hL k hk with e | e
    · exact .inl e
    · right; simp at e; omega
theorem texts_new2 (b : Nat) (v : Value) (xs : List Int) (s s2 : ByteArray) (w : World) (h : Wr w b v xs) (Lb : Nat) (hLb : w.heap.size = Lb) (h1 : s.size ≤ 255) (h2 : s2.size ≤ 255) (hxl : xs.length ≤ 10000) :
    Calls Tryd.prog 107 #[.pointer (some ⟨b, 0, none⟩), .slice (some ⟨Lb, 0, none⟩) 2 2] (w.alloc (.cells #[.string s, .string s2] 9)) fun e w' => e = .returned (.tuple #[]) ∧ ∃ v', Wr w' b v' (xs ++ textsL [s, s2]) ∧ Touch (WT b v) w w' ∧ Lies v v' w.heap.size := by
  subst hLb
  refine (texts_any b v xs [s, s2] w.heap.size 0 2 _ (h.alloc _) (by simp) (by have := h.lt; omega) (fun e => by have := (h.row _ e).2; omega) (fun i hi => ?_) (fun i => ?_) (by simp [sizes]; omega) hxl (by simp)).mono ?_
  · rcases (show i = 0 ∨ i = 1 by simp at hi; omega) with rfl | rfl
    · rw [World.cell?_alloc_at _ _ _ _ rfl]; rfl
    · rw [World.cell?_alloc_at _ _ _ _ rfl]; rfl
  · cases i with
    | zero => simpa using h1
    | succ i => cases i with
      | zero => simpa using h2
      | succ i => simp
  · rintro e w' ⟨rfl, v', hW, hT, hL⟩
    refine ⟨rfl, v', hW, ((Touch.refl (WT b v) w).alloc _).trans hT (fun _ _ h => h), fun k hk => ?_⟩
    rcases hL k hk with e | e
    · exact .inl e
    · right; simp at e; omega
end Go.Proofs.YtgmaappilopgbaaDoor
namespace Go.Proofs.YtgmaappilopgbaaDoor
open Go.ChangeShapes Go.WideShapes Go.ChangeAt Go.RowKit
set_option linter.unusedVariables false

set_option maxRecDepth 100000 in
set_option maxHeartbeats 1000000 in
theorem raw_any (b : Nat) (v : Value) (xs ys : List Int) (L off cap : Nat) (w : World) (h : Wr w b v xs) (hL : L < w.heap.size)
    (hc : ∀ i, i < ys.length → w.cell? ⟨L, off + i, none⟩ = some (.int .u8 (ys.getD i 0))) (hr : ∀ i, 0 ≤ ys.getD i 0 ∧ ys.getD i 0 ≤ 255) (h0 : 0 < ys.length) (hyl : ys.length ≤ 70000) (hxl : xs.length ≤ 70000) :
    Calls Tryd.prog 105 #[.pointer (some ⟨b, 0, none⟩), .slice (some ⟨L, off, none⟩) ys.length cap] w fun e w' => e = .returned (.tuple #[]) ∧ ∃ v', Wr w' b v' (xs ++ ys) ∧ Touch (WT b v) w w' ∧ Lies v v' w.heap.size := by
  obtain ⟨i0, hi, hz0, hz1, hz2⟩ := info_parts info5
  have HW := hide h
  have hcell := h.1
  have hfr := h.2.1
  have hbl := h.2.2.1
  have hne : some b ≠ v.ownBlock := fun e => by have := (h.row b e.symm).1; omega
  have HN := hide hne
  have hnews : ∀ j u, (ys.map (Value.int .u8))[j]? = some u → w.cell? ((⟨L, off, none⟩ : Addr).add j) = some u := fun j u hu => by
    have hadd : (⟨L, off, none⟩ : Addr).add j = ⟨L, off + j, none⟩ := by unfold Addr.add; split <;> simp_all
    rw [List.getElem?_map] at hu
    rw [hadd]
    by_cases hj : j < ys.length
    · rw [hc j hj]
      rw [List.getElem?_eq_getElem hj] at hu
      rw [List.getD_eq_getElem?_getD, List.getElem?_eq_getElem hj]
      simpa using hu
    · rw [List.getElem?_eq_none (by omega)] at hu; cases hu
  have HH := hide hnews
  have HR := hide hr
  clear h hc hr hne hnews
  go_enter Tryd.func105, Tryd.ntmps105
  go_wp2_with (at_builtin; refine wpList_append_lies _ rfl _ _ _ rfl (b + 1) 5 i0 _ 1 1 Tryd.underlying49 hi hz0 hz1 hz2 rfl (by omega) v xs.length (xs.map (Value.int .u8)) rfl (unhide HW).2.2.2.1 ⟨L, off, none⟩ ys.length cap (ys.map (Value.int .u8)) rfl (by simp) (unhide HH) (by simp [Value.oneCell']) h0 (by unfold maxLen; omega) (by omega) (by omega) w.heap.size rfl ?_; intro gg capg w1 hown1 hgrow hat hlt1; have hc1 : w1.cell? ⟨b, 0, none⟩ = some v := (hgrow.cell_far ⟨b, 0, none⟩ hbl (unhide HN)).trans hcell; have hf1 : w1.frozen? ⟨b, 0, none⟩ = false := (hgrow.frozen_far ⟨b, 0, none⟩ hbl (unhide HN)).trans hfr)
  have R := hide ((unhide HW).appended (ys := ys) (by simpa using hown1) hgrow (by
    rcases hat with e | e
    · left; rw [e]; rfl
    · right; rw [e]; rfl) (unhide HR))
  clear hown1 hgrow hat hlt1
  go_end0
  exact ⟨rfl, _, (unhide R).1, (unhide R).2.1, (unhide R).2.2⟩

end Go.Proofs.YtgmaappilopgbaaDoor
namespace Go.Proofs.YtgmaappilopgbaaDoor.Sha
open Go.ChangeShapes Go.WideShapes Go.ChangeAt Go.RowKit
set_option linter.unusedVariables false

theorem take_lt {l : List ByteArray} (h : ¬ (l.length < 2 ∨ 64 < l.length)) : (l.take (half l.length)).length < l.length := by
  have := half_facts (n := l.length) (by omega) (by omega)
  rw [List.length_take]; omega
theorem drop_lt {l : List ByteArray} (h : ¬ (l.length < 2 ∨ 64 < l.length)) : (l.drop (half l.length)).length < l.length := by
  have := half_facts (n := l.length) (by omega) (by omega)
  rw [List.length_drop]; omega
/-- The hash of a log. -/
def treeV (l : List ByteArray) : ByteArray :=
  if h : l.length < 2 ∨ 64 < l.length then (if l.length = 0 then hashV [] else l.getD 0 ByteArray.empty)
  else nodeV (treeV (l.take (half l.length))) (treeV (l.drop (half l.length)))
termination_by l.length
decreasing_by
  · exact take_lt h
  · exact drop_lt h
theorem treeV_none {l : List ByteArray} (h : l.length = 0) : treeV l = hashV [] := by rw [treeV, dif_pos (by omega), if_pos h]
theorem treeV_one {l : List ByteArray} (h : l.length = 1) : treeV l = l.getD 0 ByteArray.empty := by rw [treeV, dif_pos (by omega), if_neg (by omega)]
theorem treeV_two {l : List ByteArray} (h : 2 ≤ l.length) (h2 : l.length ≤ 64) : treeV l = nodeV (treeV (l.take (half l.length))) (treeV (l.drop (half l.length))) := by rw [treeV, dif_neg (by omega)]
def AllH (l : List ByteArray) : Prop := ∀ j, j < l.length → (l.getD j ByteArray.empty).size = 32
theorem AllH.take {l : List ByteArray} (h : AllH l) (k : Nat) : AllH (l.take k) := by
  intro j hj
  rw [List.length_take] at hj
  have := h j (by omega)
  rw [List.getD_eq_getElem?_getD] at this ⊢
  rw [List.getElem?_take, if_pos (by omega)]; exact this
theorem AllH.drop {l : List ByteArray} (h : AllH l) (k : Nat) : AllH (l.drop k) := by
  intro j hj
  rw [List.length_drop] at hj
  have := h (k + j) (by omega)
  rw [List.getD_eq_getElem?_getD] at this ⊢
  rw [List.getElem?_drop]; exact this
theorem tree_size : ∀ (n : Nat) (l : List ByteArray), l.length = n → n ≤ 64 → AllH l → (treeV l).size = 32 := by
  intro n
  induction n using Nat.strongRecOn with
  | ind n ih =>
    intro l hl hn ha
    rcases (show n = 0 ∨ n = 1 ∨ 2 ≤ n by omega) with h | h | h
    · rw [treeV_none (by omega)]; exact hash_size (by simp)
    · rw [treeV_one (by omega)]; exact ha 0 (by omega)
    · rw [treeV_two (by omega) (by omega)]
      have hf := half_facts (n := l.length) (by omega) (by omega)
      have e1 : (l.take (half l.length)).length = half l.length := by rw [List.length_take]; omega
      have e2 : (l.drop (half l.length)).length = l.length - half l.length := List.length_drop ..
      exact node_size (ih _ (by omega) _ e1 (by omega) (ha.take _)) (ih _ (by omega) _ e2 (by omega) (ha.drop _))

set_option maxRecDepth 100000 in
set_option maxHeartbeats 2000000 in
theorem treeHash_any : ∀ (n : Nat) (l : List ByteArray) (b off cap : Nat) (w : World), l.length = n → n ≤ 64 → AllH l → SA w b off cap l → Tab w →
    Calls Tryd.prog 99 #[.slice (some ⟨b, off, none⟩) n cap] w fun e w' => e = .returned (.string (treeV l)) ∧ Below w.heap.size w w' := by
  intro n
  induction n using Nat.strongRecOn with
  | ind n ih =>
    intro l b off cap w hl hn ha hs ht
    have HT := hide ht
    have HS := hide hs
    have HA := hide ha
    have HL := hide hl
    have hcap : n ≤ cap := by have := hs.le; omega
    have hcm : cap ≤ 9223372036854775807 := by have := hs.mx; unfold maxLen at this; omega
    rcases (show n = 0 ∨ n = 1 ∨ 2 ≤ n by omega) with h | h | h
    · have HV := hide (treeV_none (l := l) (by omega))
      have HH := hide (implHash_any (.slice none 0 0) [] w ⟨none, 0, rfl, by unfold maxLen; simp, .inl rfl, fun i => by simp⟩ ht.2 ht.1)
      clear ih hl ha hs ht
      subst h
      go_enter Tryd.func99, Tryd.ntmps99
      go_wp2_with fail
      refine (unhide HH).mono ?_
      rintro e w1 ⟨rfl, hb1⟩
      have K := hide hb1
      clear hb1
      rw [← unhide HV]
      go_wp2_with fail
      go_ret
      exact ⟨rfl, unhide K⟩
    · have HV := hide (treeV_one (l := l) (by omega))
      have c0 := hs.cell 0 (by omega)
      rw [Nat.add_zero] at c0
      clear ih hl ha hs ht
      subst h
      rw [← unhide HV] at c0
      go_enter Tryd.func99, Tryd.ntmps99
      go_wp2_with fail
      go_ret
      exact ⟨rfl, Below.refl _ _⟩
    · have HV := hide (treeV_two (l := l) (by omega) (by omega))
      have hf := half_facts (n := n) h hn
      have HP := hide (splitPlace_any n w h hn)
      rw [hl] at HV
      have z1 := tree_size (half n) (l.take (half n)) (by rw [List.length_take]; omega) (by omega) (ha.take _)
      have z2 := tree_size (n - half n) (l.drop (half n)) (by rw [List.length_drop]; omega) (by omega) (ha.drop _)
      have HZ := hide (And.intro z1 z2)
      have H1 : Hid (∀ wx, Below w.heap.size w wx → Calls Tryd.prog 99 #[.slice (some ⟨b, off, none⟩) (half n) cap] wx fun e w' => e = .returned (.string (treeV (l.take (half n)))) ∧ Below wx.heap.size wx w') := hide (fun wx hbx =>
        ih (half n) (by omega) (l.take (half n)) b off cap wx (by rw [List.length_take]; omega) (by omega) (ha.take _) ((hs.take _ (by omega)).below hbx) (ht.below hbx))
      have H2 : Hid (∀ wx, Below w.heap.size w wx → Calls Tryd.prog 99 #[.slice (some ⟨b, off + half n, none⟩) (n - half n) (cap - half n)] wx fun e w' => e = .returned (.string (treeV (l.drop (half n)))) ∧ Below wx.heap.size wx w') := hide (fun wx hbx =>
        ih (n - half n) (by omega) (l.drop (half n)) b (off + half n) (cap - half n) wx (by rw [List.length_drop]; omega) (by omega) (ha.drop _) ((hs.drop _ (by omega)).below hbx) (ht.below hbx))
      clear ih hl ha hs ht z1 z2
      generalize treeV (l.take (half n)) = t1 at *
      generalize treeV (l.drop (half n)) = t2 at *
      generalize half n = k at *
      have k0 : (0 : Int) ≤ (k : Int) := by omega
      have k1 : (k : Int) ≤ (n : Int) := by omega
      have k2 : (k : Int) ≤ (cap : Int) := by omega
      go_enter Tryd.func99, Tryd.ntmps99
      go_wp2_with fail
      refine (unhide HP).mono ?_
      rintro e w9 ⟨rfl, hw9⟩
      subst w9
      go_wp2_with fail
      go_region_held3 (fun _ => True) (trivial) (first
        | (go_at_call 135; refine (nodeHash_any t1 t2 _ (unhide HZ).1 (unhide HZ).2 ((unhide HT).below hb2)).mono ?_; rintro e w3 ⟨rfl, hb3⟩)
        | (go_at_call 99; refine (unhide H2 _ hb1).mono ?_; rintro e w2 ⟨rfl, hb2'⟩; have hb2 := hb1.trans (hb2'.mono hb1.size))
        | (go_at_call 99; refine (unhide H1 _ ((Below.refl _ w).drew)).mono ?_; rintro e w1 ⟨rfl, hb1'⟩; have hb1 := ((Below.refl _ w).drew).trans hb1'))
      have K := hide (hb2.trans (hb3.mono hb2.size))
      clear hb1' hb1 hb2' hb2 hb3
      rw [← unhide HV]
      go_wp2_with fail
      go_ret
      exact ⟨rfl, unhide K⟩
set_option maxRecDepth 100000 in
set_option maxHeartbeats 2000000 in
theorem l06Tree_any : ∀ (n : Nat) (l : List ByteArray) (b off cap : Nat) (w : World), l.length = n → n ≤ 64 → AllH l → SA w b off cap l →
    Calls Tryd.prog 93 #[.slice (some ⟨b, off, none⟩) n cap] w fun e w' => e = .returned (.string (treeV l)) ∧ Below w.heap.size w w' := by
  intro n
  induction n using Nat.strongRecOn with
  | ind n ih =>
    intro l b off cap w hl hn ha hs
    have HS := hide hs
    have HA := hide ha
    have HL := hide hl
    have hcap : n ≤ cap := by have := hs.le; omega
    have hcm : cap ≤ 9223372036854775807 := by have := hs.mx; unfold maxLen at this; omega
    rcases (show n = 0 ∨ n = 1 ∨ 2 ≤ n by omega) with h | h | h
    · have HV := hide (treeV_none (l := l) (by omega))
      have hV : Hid (hashV [] = strOfNums (textL (stAt [] (padLen 0 / 64)))) := hide (hashV_yes (by simp))
      have HH := hide (l01Hash_any ⟨w.heap.size, 0, none⟩ 0 [] (w.alloc (.cells #[] 5)) (own_empty w w.heap.size w.heap.size rfl (Nat.le_refl _)).bytes (by simp))
      have B0 := hide ((Below.refl w.heap.size w).alloc (Nat.le_refl _) (.cells #[] 5))
      simp only [List.length_nil] at HH
      clear ih hl ha hs
      subst h
      go_enter Tryd.func93, Tryd.ntmps93
      go_wp2_with fail
      refine (unhide HH).mono ?_
      rintro e w1 ⟨rfl, hb1⟩
      have K := hide ((unhide B0).trans (hb1.mono (unhide B0).size))
      clear hb1
      rw [← unhide hV, ← unhide HV]
      go_wp2_with fail
      go_ret
      exact ⟨rfl, unhide K⟩
    · have HV := hide (treeV_one (l := l) (by omega))
      have c0 := hs.cell 0 (by omega)
      rw [Nat.add_zero] at c0
      clear ih hl ha hs
      subst h
      rw [← unhide HV] at c0
      go_enter Tryd.func93, Tryd.ntmps93
      go_wp2_with fail
      go_ret
      exact ⟨rfl, Below.refl _ _⟩
    · have HV := hide (treeV_two (l := l) (by omega) (by omega))
      have hf := half_facts (n := n) h hn
      have HP := hide (l06Half_any n w h hn)
      rw [hl] at HV
      have z1 := tree_size (half n) (l.take (half n)) (by rw [List.length_take]; omega) (by omega) (ha.take _)
      have z2 := tree_size (n - half n) (l.drop (half n)) (by rw [List.length_drop]; omega) (by omega) (ha.drop _)
      have HZ := hide (And.intro z1 z2)
      have H1 : Hid (∀ wx, Below w.heap.size w wx → Calls Tryd.prog 93 #[.slice (some ⟨b, off, none⟩) (half n) cap] wx fun e w' => e = .returned (.string (treeV (l.take (half n)))) ∧ Below wx.heap.size wx w') := hide (fun wx hbx =>
        ih (half n) (by omega) (l.take (half n)) b off cap wx (by rw [List.length_take]; omega) (by omega) (ha.take _) ((hs.take _ (by omega)).below hbx))
      have H2 : Hid (∀ wx, Below w.heap.size w wx → Calls Tryd.prog 93 #[.slice (some ⟨b, off + half n, none⟩) (n - half n) (cap - half n)] wx fun e w' => e = .returned (.string (treeV (l.drop (half n)))) ∧ Below wx.heap.size wx w') := hide (fun wx hbx =>
        ih (n - half n) (by omega) (l.drop (half n)) b (off + half n) (cap - half n) wx (by rw [List.length_drop]; omega) (by omega) (ha.drop _) ((hs.drop _ (by omega)).below hbx))
      clear ih hl ha hs z1 z2
      generalize treeV (l.take (half n)) = t1 at *
      generalize treeV (l.drop (half n)) = t2 at *
      generalize half n = k at *
      have k0 : (0 : Int) ≤ (k : Int) := by omega
      have k1 : (k : Int) ≤ (n : Int) := by omega
      have k2 : (k : Int) ≤ (cap : Int) := by omega
      go_enter Tryd.func93, Tryd.ntmps93
      go_wp2_with fail
      refine (unhide HP).mono ?_
      rintro e w9 ⟨rfl, hw9⟩
      subst w9
      go_wp2_with fail
      go_region_held3 (fun _ => True) (trivial) (first
        | (go_at_call 124; refine (l06Node_any t1 t2 _ (unhide HZ).1 (unhide HZ).2).mono ?_; rintro e w3 ⟨rfl, hb3⟩)
        | (go_at_call 93; refine (unhide H2 _ hb1).mono ?_; rintro e w2 ⟨rfl, hb2'⟩; have hb2 := hb1.trans (hb2'.mono hb1.size))
        | (go_at_call 93; refine (unhide H1 _ ((Below.refl _ w).drew)).mono ?_; rintro e w1 ⟨rfl, hb1'⟩; have hb1 := ((Below.refl _ w).drew).trans hb1'))
      have K := hide (hb2.trans (hb3.mono hb2.size))
      clear hb1' hb1 hb2' hb2 hb3
      rw [← unhide HV]
      go_wp2_with fail
      go_ret
      exact ⟨rfl, unhide K⟩

/-- What TreeHash answers. -/
def treeOut (l : List ByteArray) : Value := if codeL l = 0 then .tuple #[.string (treeV l), .int .i64 0] else .tuple #[.string ⟨#[]⟩, .int .i64 (codeL l)]
end Go.Proofs.YtgmaappilopgbaaDoor.Sha
namespace Go.Proofs.YtgmaappilopgbaaDoor.Sha
open Go.ChangeShapes Go.WideShapes Go.ChangeAt Go.RowKit Go.Shelf
set_option linter.unusedVariables false
set_option linter.unusedSimpArgs false

/-- No operation defers. -/
def noDefer (ops : Array Oper) : Bool := ops.all fun o => match o.op with | .defer _ => false | _ => true
theorem noDefer_spec {ops : Array Oper} (h : noDefer ops = true) {i : Nat} {o : Oper} (ho : ops[i]? = some o) : ∀ c, o.op ≠ .defer c := by
  intro c e
  have hm := Array.mem_of_getElem? ho
  have := (Array.all_eq_true_iff_forall_mem.1 h) o hm
  rw [e] at this
  cases this
/-- A region that draws its order, and no operation of which defers, goes in a round as it goes without one. -/
theorem wpAnyIn_round {F : Fence} {n : Nat} {P : Program} {md : Region.Mode} {ops : Array Oper} {Q : Exit → Act → World → Prop} {l : Nat} (hF : F.round = none) (hd : noDefer ops = true) :
    ∀ (fuel : Nat) (listed : Array Bool) (a : Act) (w : World), wpAnyIn F n P md ops Q fuel listed a w → wpAnyIn (F.inRound l) n P md ops Q fuel listed a w := by
  intro fuel
  induction fuel with
  | zero => intro listed a w h; exact h
  | succ fuel ih =>
    intro listed a w h
    refine ⟨h.1, fun i hi => ?_⟩
    have h3 := wpOpIn_mono (fun a w hh => ih _ a w hh) (h.2 i hi)
    unfold wpOpIn at h3 ⊢
    cases ho : ops[i]? with
    | none => simpa [ho] using h3
    | some o =>
      simp only [ho] at h3 ⊢
      by_cases hw : Region.wanted o (yielded ops a.tmps) = true
      · simp only [hw, if_true] at h3 ⊢
        unfold Oper.wpIn at h3 ⊢
        refine ⟨h3.1, ?_⟩
        have h4 := h3.2
        rw [Oper.semAt_eq _ _ _ (noDefer_spec hd ho)] at h4 ⊢
        generalize (execOp a.eval o).run P w = r at *
        cases r with
        | ok x w' => cases x <;> exact h4
        | halt x w' => cases x <;> exact h4
      · simp only [hw, Bool.false_eq_true, if_false] at h3 ⊢
        exact h3
end Go.Proofs.YtgmaappilopgbaaDoor.Sha
namespace Go.Proofs.YtgmaappilopgbaaDoor.Sha
open Go.ChangeShapes Go.WideShapes Go.ChangeAt Go.RowKit Go.Shelf
set_option linter.unusedVariables false
set_option linter.unusedSimpArgs false
attribute [local go_sem] Oper.semAt_some

set_option maxRecDepth 100000 in
theorem places_any (p : Nat) (a : Option Addr) (n c : Nat) (w : World) (h : w.cell? ⟨p, 0, none⟩ = some (.slice a n c)) (hn : n ≤ maxLen) :
    Calls Tryd.prog 104 #[.pointer (some ⟨p, 0, none⟩)] w fun e w' => e = .returned (.int .i64 n) ∧ w' = w := by
  unfold maxLen at hn
  go_enter Tryd.func104, Tryd.ntmps104
  go_wp2_with fail
  go_ret
  exact ⟨rfl, rfl⟩
set_option maxRecDepth 100000 in
theorem keys_any (p : Nat) (tp : Option Addr) (S : Nat → Prop) (o : Option Tr) (w : World) (hc : w.cell? ⟨p, 1, none⟩ = some (.pointer tp)) (hp : PtrM w S tp o) (hok : OkO o) (h40 : lvO o ≤ 1000) :
    Calls Tryd.prog 106 #[.pointer (some ⟨p, 1, none⟩)] w fun e w' => e = .returned (.int .i64 (lvO o)) ∧ Below w.heap.size w w' := by
  have HT := hide (sizeO_any hp hok h40)
  clear hp hok
  generalize lvO o = tv at *
  go_enter Tryd.func106, Tryd.ntmps106
  go_wp2_with fail
  refine (unhide HT).mono ?_
  rintro e w1 ⟨rfl, hb1⟩
  have K := hide hb1
  clear hb1
  go_wp2_with fail
  go_ret
  exact ⟨rfl, unhide K⟩
/-- The bytes of leaves, of keys with their values, of sessions. -/
def lvsL : List ByteArray → List Int
  | [] => []
  | s :: r => bytesI s ++ lvsL r
def kvsL : List (ByteArray × ByteArray) → List Int
  | [] => []
  | x :: r => textsL [x.1, x.2] ++ kvsL r
def sesL1 (f : Se) : List Int := (encN f.id 2 ++ encN f.sq 2) ++ (encN f.kd 1 ++ encN f.pl 1) ++ textsL [f.vl]
def sesLs : List Se → List Int
  | [] => []
  | f :: r => sesL1 f ++ sesLs r
def lvsO : Option Tr → List (ByteArray × ByteArray)
  | none => []
  | some t => t.lvs
def snapL (ls : List ByteArray) (o : Option Tr) (ss : List Se) : List Int := encN ls.length 1 ++ lvsL ls ++ encN (lvO o) 1 ++ kvsL (lvsO o) ++ encN ss.length 1 ++ sesLs ss
theorem lvsL_app (a b : List ByteArray) : lvsL (a ++ b) = lvsL a ++ lvsL b := by
  induction a with
  | nil => rfl
  | cons x r ih => show bytesI x ++ lvsL (r ++ b) = _; rw [ih, ← List.append_assoc]; rfl
theorem kvsL_app (a b : List (ByteArray × ByteArray)) : kvsL (a ++ b) = kvsL a ++ kvsL b := by
  induction a with
  | nil => rfl
  | cons x r ih => show textsL [x.1, x.2] ++ kvsL (r ++ b) = _; rw [ih, ← List.append_assoc]; rfl
theorem sesLs_app (a b : List Se) : sesLs (a ++ b) = sesLs a ++ sesLs b := by
  induction a with
  | nil => rfl
  | cons x r ih => show sesL1 x ++ sesLs (r ++ b) = _; rw [ih, ← List.append_assoc]; rfl
theorem take_next {α : Type} [Inhabited α] (l : List α) (k : Nat) (d : α) (h : k < l.length) : l.take (k + 1) = l.take k ++ [l.getD k d] := by
  rw [List.take_succ_eq_append_getElem h, List.getD_eq_getElem?_getD, List.getElem?_eq_getElem h]; rfl
theorem lvsL_len {l : List ByteArray} (h : AllH l) : (lvsL l).length = 32 * l.length := by
  induction l with
  | nil => rfl
  | cons x r ih =>
    have h0 : x.size = 32 := h 0 (by simp)
    have hr : AllH r := fun j hj => by have := h (j + 1) (by simpa using hj); simpa using this
    show (bytesI x ++ lvsL r).length = _
    rw [List.length_append, bytesI_len, ih hr, h0, List.length_cons]; omega
theorem ses_bounds {l : List Se} {n i : Nat} (h : sesTo l n) (hi : i < n) : (0 ≤ (l.getD i default).id ∧ (l.getD i default).id ≤ 65535) ∧ (0 ≤ (l.getD i default).sq ∧ (l.getD i default).sq ≤ 65535) ∧ (0 ≤ (l.getD i default).kd ∧ (l.getD i default).kd ≤ 6) ∧ (0 ≤ (l.getD i default).pl ∧ (l.getD i default).pl ≤ 50) ∧ (l.getD i default).vl.size ≤ 60 := by
  have h1 := h i hi
  have h2 := leastS_lo (l := l) (k := i) (fun j hj => h j (by omega))
  unfold sesAt repB at h1
  simp only [Bool.and_eq_true, inB_iff, decide_eq_true_eq] at h1
  omega
theorem sesT_len {ss : List Se} (h : sesTo ss ss.length) : ∀ k, k ≤ ss.length → (sesLs (ss.take k)).length ≤ 67 * k
  | 0, _ => by simp [sesLs]
  | k + 1, hk => by
    have h1 := sesT_len h k (by omega)
    have h2 := (ses_bounds h (show k < ss.length by omega)).2.2.2.2
    rw [take_next ss k default (by omega), sesLs_app, List.length_append]
    simp only [sesLs, sesL1, List.length_append, List.append_nil, encN_len, textsL_len, sizes]
    omega
theorem wr_cells {W : World} {b : Nat} {v : Value} {xs : List Int} (h : Wr W b v xs) (k : Nat) (hk : WT b v k) : ∃ o : Obj, W.heap[k]? = some o ∧ o.isCells = true := by
  rcases hk with rfl | hk
  · exact cells_of_cell h.1
  · rcases h.2.2.2.1.2 with ⟨rfl, _⟩ | ⟨g, cap, cur, rfl, _, hg, _⟩
    · simp [Value.ownBlock] at hk
    · simp [Value.ownBlock] at hk
      subst hk
      exact ⟨_, hg, rfl⟩
theorem wr_keeps {W W' : World} {b : Nat} {v : Value} {xs : List Int} (h : Wr W b v xs) (ht : Touch (WT b v) W W') : KeepsOthers W W' :=
  ⟨ht.size, fun k o hk ho => by
    have hlt := (Array.getElem?_eq_some_iff.1 hk).1
    refine (ht.block k hlt (fun hT => ?_)).trans hk
    obtain ⟨o', ho', hc⟩ := wr_cells h k hT
    rw [hk] at ho'
    cases ho'
    rw [ho] at hc
    cases hc⟩
theorem wr_own {β : Type} (b : Nat) (f : β → List Int) : Own (fun (s : β) (W : World) => ∃ v, Wr W b v (f s)) := fun s A B row hs hg hr => by
  obtain ⟨v, hW⟩ := hs
  refine ⟨v, hW.kept (T := fun q => row = some q) ((Touch.refl _ A).grown hg (fun q hq _ => hq)) (fun e => ?_) (fun k hk e => ?_)⟩
  · obtain ⟨o, h1, h2⟩ := hr b e
    obtain ⟨o', h3, h4⟩ := wr_cells hW b (.inl rfl)
    rw [h1] at h3; cases h3; rw [h2] at h4; cases h4
  · obtain ⟨o, h1, h2⟩ := hr k e
    obtain ⟨o', h3, h4⟩ := wr_cells hW k (.inr hk)
    rw [h1] at h3; cases h3; rw [h2] at h4; cases h4
theorem ptr_lv {w : World} {S : Nat → Prop} {pv : Option Addr} {o : Option Tr} (h : PtrM w S pv o) (ho : OkO o) : ∃ T : Option (LT w w.heap.size), IsLO w pv T ∧ (LO.list T).map (fun x => x.1.2) = lvsO o := by
  cases o with
  | none => exact ⟨none, h, rfl⟩
  | some t =>
    obtain ⟨p, h1, h2⟩ := h
    obtain ⟨T, h3, h4⟩ := lt_of_nd h2 ho
    exact ⟨some T, ⟨p, h1, h3⟩, h4⟩
theorem lvsO_len (o : Option Tr) : (lvsO o).length = lvO o := by
  cases o with
  | none => rfl
  | some t => exact lvs_len t
theorem kvsL_len : ∀ l : List (ByteArray × ByteArray), (∀ x ∈ l, x.1.size ≤ 24 ∧ x.2.size ≤ 60) → (kvsL l).length ≤ 86 * l.length
  | [], _ => Nat.le_refl _
  | x :: r, h => by
    have h1 := h x (by simp)
    have h2 := kvsL_len r (fun y hy => h y (by simp [hy]))
    show (textsL [x.1, x.2] ++ kvsL r).length ≤ _
    rw [List.length_append, textsL_len, List.length_cons]
    simp [sizes]
    omega
set_option maxRecDepth 100000 in
set_option maxHeartbeats 20000000 in
theorem snapshot_in (p g gc h hc : Nat) (tp : Option Addr) (S : Nat → Prop) (ls : List ByteArray) (o : Option Tr) (ss : List Se) (w : World)
    (hblk : Blk w p [.slice (some ⟨g, 0, none⟩) ls.length gc, .pointer tp, .slice (some ⟨h, 0, none⟩) ss.length hc]) (hS : SA w g 0 gc ls) (hP : PtrM w S tp o) (hok : OkO o) (h40 : lvO o ≤ 40) (hZ : Sess w (.slice (some ⟨h, 0, none⟩) ss.length hc) ss) (h50 : ls.length ≤ 50) (hall : AllH ls) (hses : sesB ss = true) :
    CallsIn Fence.wide 5 Tryd.prog 62 #[.pointer (some ⟨p, 0, none⟩)] w fun e w' => ∃ v', e = .returned v' ∧ OwnB w.heap.size w' v' (snapL ls o ss) ∧ Below w.heap.size w w' := by
  have hdd : ∀ k : Nat, (Fence.wide.depth.isSome = true → 1 ≤ k) := fun k h => by cases h
  have HBK := hide hblk
  have HSA := hide hS
  have HPM := hide hP
  have HZZ := hide hZ
  have HOK := hide hok
  have HAL := hide hall
  have HSB := hide (sesB_all hses)
  have hss8 := (unhide HSB).1
  have W0 := hide (Wr.new w w.heap.size rfl 153)
  have B0 := hide ((Below.refl w.heap.size w).alloc (Nat.le_refl _) (.cells #[.slice none 0 0] 153))
  have c0 := (hblk.below ((Below.refl w.heap.size w).alloc (Nat.le_refl _) (.cells #[.slice none 0 0] 153))).cell 0 rfl
  have hgl := hS.lt
  clear hblk hS hP hok hZ hall hses
  refine callsIn_of_wp_marks Tryd.func62 rfl trivial ?_ rfl
  simp only [Tryd.ntmps62, List.size_toArray, List.length_cons, List.length_nil, Nat.reduceAdd, Nat.reduceSub, Array.replicate_succ, Array.replicate_zero, List.push_toArray, List.append_toArray, List.nil_append, List.cons_append]
  gi_wp2_with fail
  generalize w.alloc (.cells #[.slice none 0 0] 153) = w0 at *
  refine ⟨trivial, ?_⟩
  refine ((callsIn_wide (n := 4)).2 (places_any p _ _ _ w0 c0 (by unfold maxLen; omega))).mono ?_
  rintro e w1 ⟨rfl, hw1⟩
  subst hw1
  gi_wp2_with fail
  refine ⟨trivial, ?_⟩
  refine ((callsIn_wide (n := 4)).2 (numbers_new1 w.heap.size 1 1 rfl _ [] (ls.length : Int) w1 (unhide W0) _ rfl (by omega) (by omega) (by omega) (by simp))).mono ?_
  rintro e w2 ⟨rfl, v2, hW2, hT2, hL2⟩
  have B2 := hide ((unhide B0).trans (((unhide W0).below hT2 (Nat.le_refl _))))
  have W2 := hide hW2
  have c2 := ((unhide HBK).below (unhide B2)).cell 0 rfl
  have HLN := hide (lvsL_len (unhide HAL))
  clear hW2 hT2 hL2 W0 B0 c0
  gi_wp2_with fail
  gi_loopw [21] (fun i wr => ∃ (k : Nat) (v : Value), k ≤ ls.length ∧ i = .int .i64 k ∧ Wr wr w.heap.size v (encN ls.length 1 ++ lvsL (ls.take k)) ∧ Below w.heap.size w wr) (fun i _ => ls.length - (intOf i).toNat)
  case atStart => exact ⟨0, v2, Nat.zero_le _, rfl, unhide W2, unhide B2⟩
  case round =>
    obtain ⟨k, v, hk, rfl, hW, hb⟩ := hrel
    clear W2 B2 c2
    have HB := hide hb
    have HW := hide hW
    by_cases hlt : k < ls.length
    · have cs := ((unhide HSA).below hb).cell k hlt
      have hs32 := unhide HAL k hlt
      have hk0 : (0 : Int) ≤ (k : Int) := by omega
      have hk1 : (k : Int) < (ls.length : Int) := by omega
      have HTN := hide (take_next ls k ByteArray.empty hlt)
      rw [Nat.zero_add] at cs
      generalize ls.getD k ByteArray.empty = s at *
      obtain ⟨cap, w3, hcv, hBy, hb3⟩ := str_bytesB s wr (by unfold maxLen; omega)
      rw [hs32] at hcv hBy
      have hl32 : (bytesI s).length = 32 := by rw [bytesI_len]; exact hs32
      have hW3 := hW.kept (T := fun _ => False) (Touch.ofBelow hb3) (fun h => h) (fun _ _ h => h)
      have hxl : (encN ls.length 1 ++ lvsL (ls.take k)).length ≤ 70000 := by
        have h1 := lvsL_len ((unhide HAL).take k)
        rw [List.length_append, encN_len, h1, List.length_take]
        omega
      have hcells : ∀ i, i < (bytesI s).length → w3.cell? ⟨wr.heap.size, 0 + i, none⟩ = some (.int .u8 ((bytesI s).getD i 0)) := by
        obtain ⟨a', cap', hv', _, hc', _⟩ := hBy
        rcases hc' with h0 | ⟨b', off', ha', _, hc'⟩
        · intro i hi; omega
        · simp only [Value.slice.injEq] at hv'
          obtain ⟨rfl, _, _⟩ := hv'
          simp only [Option.some.injEq, Addr.mk.injEq, and_true] at ha'
          obtain ⟨rfl, rfl⟩ := ha'
          exact hc'
      have HRW := hide (raw_any w.heap.size v _ (bytesI s) wr.heap.size 0 cap w3 hW3 (by have := hBy; obtain ⟨a', cap', hv', _, hc', _⟩ := hBy; rcases hc' with h0 | ⟨b', off', ha', hbl', _⟩; omega; simp only [Value.slice.injEq] at hv'; obtain ⟨rfl, _, _⟩ := hv'; simp only [Option.some.injEq, Addr.mk.injEq, and_true] at ha'; obtain ⟨rfl, rfl⟩ := ha'; exact hbl') hcells (bytesI_range s) (by omega) (by omega) hxl)
      rw [hl32] at HRW
      have W3 := hide hW3
      have B3 := hide ((unhide HB).trans (hb3.mono (unhide HB).size))
      have HXS : Hid (encN ls.length 1 ++ lvsL (ls.take k) ++ bytesI s = encN ls.length 1 ++ lvsL (ls.take (k + 1))) := hide (by rw [unhide HTN, lvsL_app, List.append_assoc]; simp [lvsL])
      clear hW hb hW3 hb3 hBy hcells hxl hl32
      gi_wp2_with fail
      refine ⟨trivial, ?_⟩
      refine ((callsIn_wide (n := 4)).2 (unhide HRW)).mono ?_
      rintro e w4 ⟨rfl, v4, hW4, hT4, hL4⟩
      have B4 := hide ((unhide B3).trans ((unhide W3).below hT4 (Nat.le_refl _)))
      rw [unhide HXS] at hW4
      have W4 := hide hW4
      clear hW4 hT4 hL4 HRW W3 B3 cs
      gi_wp2_with fail
      refine ⟨⟨k + 1, v4, by omega, by go_num, unhide W4, unhide B4⟩, ?_⟩
      simp [intOf]; omega
    · obtain rfl : k = ls.length := by omega
      rw [List.take_length] at hW
      have W3 := hide hW
      clear hW hb HW
      have B4 := HB
      have c3 := ((unhide HBK).below (unhide HB)).cell 1 rfl
      have hlo : (lvO o : Int) ≤ 40 := by omega
      have HXL3 : Hid ((encN ls.length 1 ++ lvsL ls).length ≤ 1700) := hide (by rw [List.length_append, encN_len, unhide HLN]; omega)
      gi_wp2_with fail
      refine ⟨trivial, ?_⟩
      refine ((callsIn_wide (n := 4)).2 (keys_any p tp S o wr c3 ((unhide HPM).blw (unhide HB)) (unhide HOK) (by omega))).mono ?_
      rintro e w4 ⟨rfl, hb4⟩
      have W4 := hide ((unhide W3).kept (T := fun _ => False) (Touch.ofBelow hb4) (fun h => h) (fun _ _ h => h))
      have B5 := hide ((unhide HB).trans (hb4.mono (unhide HB).size))
      clear hb4 W3 c3
      gi_wp2_with fail
      refine ⟨trivial, ?_⟩
      refine ((callsIn_wide (n := 4)).2 (numbers_new1 w.heap.size 1 1 rfl _ _ (lvO o : Int) w4 (unhide W4) _ rfl (by omega) (by omega) (by omega) (by have := unhide HXL3; omega))).mono ?_
      rintro e w5 ⟨rfl, v5, hW5, hT5, hL5⟩
      have B6 := hide ((unhide B5).trans ((unhide W4).below hT5 (Nat.le_refl _)))
      have W5 := hide hW5
      have c5 := ((unhide HBK).below (unhide B6)).cell 1 rfl
      clear hW5 hT5 hL5 W4 B5
      gi_wp2_with (refine ⟨trivial, ?_⟩; (try refine ⟨hdd _, ?_⟩); gi_at_call 79; refine (leaves_in 4 _ _).mono ?_; rintro e w' ⟨rfl, rfl⟩)
      obtain ⟨T, hT, hTl⟩ := ptr_lv (unhide HPM) (unhide HOK)
      have hN : (LO.list T).length = lvO o := by rw [← lvsO_len, ← hTl, List.length_map]
      have bP := box_cell w5 (.pointer tp) 65
      have hBA := (Below.refl w5.heap.size w5).alloc (Nat.le_refl _) (.cells #[.pointer tp] 65)
      have hB7 : Below w.heap.size w (w5.alloc (.cells #[.pointer tp] 65)) := (unhide B6).trans (hBA.mono (unhide B6).size)
      have hW7 := (unhide W5).kept (T := fun _ => False) (Touch.ofBelow hBA) (fun h => h) (fun _ _ h => h)
      have hsz7 : (w5.alloc (.cells #[.pointer tp] 65)).heap.size = w5.heap.size + 1 := by simp
      have hs5 := (unhide B6).size
      generalize hxs : encN ls.length 1 ++ lvsL ls ++ encN (lvO o) 1 = xs5 at *
      refine wpIn_rangeFunc_ownG rfl (by omega) (gf := 111) (lb := #[.pointer (some ⟨w5.heap.size, 0, none⟩)]) rfl trivial (enters_of Tryd.func111 (by kernel_rfl) rfl)
        (leaves_stops 4 w5.heap.size tp T _ (by simp) (by omega) bP.1 (hT.below hB7)) belowK_t (belowK_b (by omega)) (Below.refl _ _) (fun _ => rfl)
        (fun (pre : List (LfA w w.heap.size)) W => (∃ v, Wr W w.heap.size v (xs5 ++ kvsL (pre.map fun x => x.1.2))) ∧ Below w.heap.size w W)
        (fun _ _ _ => False)
        (OwnFrom.and (Own.from (wr_own w.heap.size (fun (pre : List (LfA w w.heap.size)) => xs5 ++ kvsL (pre.map fun x => x.1.2))) _) (ownFrom_below (Nat.le_refl _) (by omega)))
        (fun _ _ _ _ _ hs _ _ => hs)
        ⟨⟨_, by simpa [kvsL] using hW7⟩, hB7⟩
        (fun (x : LfA w w.heap.size) => { tmps := #[.pointer (some ⟨p, 0, none⟩), undef, .slice none 0 0, .pointer (some ⟨w.heap.size, 0, none⟩), undef, u5, .pointer (some ⟨x.1.1, 0, none⟩), undef, undef, .pointer (some ⟨p, 0, none⟩), .pointer (some ⟨p, 0, none⟩), .pointer (some ⟨p, 0, none⟩), .int .i64 ls.length, .slice (some ⟨w1.heap.size, 0, none⟩) 1 1, .tuple #[], .pointer (some ⟨p, 0, none⟩), .pointer (some ⟨p, 0, none⟩), .pointer (some ⟨p, 0, none⟩), .pointer (some ⟨p, 0, none⟩), .slice (some ⟨g, 0, none⟩) ls.length gc, .int .i64 ls.length, .int .i64 ls.length, .bool false, u23, u24, u25, u26, u27, u28, .pointer (some ⟨p, 0, none⟩), .pointer (some ⟨p, 0, none⟩), .pointer (some ⟨p, 1, none⟩), .int .i64 (lvO o), .slice (some ⟨w4.heap.size, 0, none⟩) 1 1, .tuple #[], .pointer (some ⟨p, 0, none⟩), .pointer (some ⟨p, 0, none⟩), .pointer (some ⟨p, 1, none⟩), .pointer (some ⟨p, 1, none⟩), .pointer tp, .func (.func 111) #[] #[.pointer (some ⟨w5.heap.size, 0, none⟩)], .pointer (some ⟨x.1.1, 0, none⟩), undef, undef, undef, undef, undef, undef, undef, undef, undef, undef, undef, undef, undef, undef, undef, undef, undef, undef, undef, undef, undef, undef, undef, undef, undef, undef, undef, undef, undef, undef, undef, undef, undef, undef, undef, undef, undef, undef, undef, undef, undef, undef, undef, undef, undef, undef, undef, undef], defers := [] }) ?assign ?body ?done ?stop
      case assign =>
        intro l x W K hK
        gi_wp2
        exact hK
      case body =>
        rintro l pre x W ⟨⟨v, hW⟩, hB⟩ hlt
        have hx0 := x.2.1
        have hx1 := (hB.cell (p := ⟨x.1.1, 0, none⟩) hx0).trans x.2.2.1
        have hx2 := (hB.cell (p := ⟨x.1.1, 1, none⟩) hx0).trans x.2.2.2.1
        have hx3 := x.2.2.2.2
        obtain ⟨⟨xb, xk, xv⟩, hxx⟩ := x
        dsimp only at hx1 hx2 hx0 hx3 ⊢
        have hWd := hW.drew
        have HXL : Hid ((xs5 ++ kvsL (pre.map fun x => x.1.2)).length ≤ 10000) := hide (by
          have h1 := kvsL_len (pre.map fun x : LfA w w.heap.size => x.1.2) (fun y hy => by
            simp only [List.mem_map] at hy
            obtain ⟨z, _, rfl⟩ := hy
            exact z.2.2.2.2)
          rw [List.length_map] at h1
          rw [List.length_append, ← hxs, List.length_append, encN_len]
          have := unhide HXL3
          omega)
        have HTX := hide (texts_new2 w.heap.size v _ xk xv W.drew hWd _ rfl (by omega) (by omega) (unhide HXL))
        have HWW := hide hW
        have HWD := hide hWd
        clear hW hWd
        gi_wp2
        refine wpIn_region_any (by kernel_rfl) ?_
        refine wpAnyIn_round (F := Fence.wide) rfl (by kernel_rfl) _ _ _ _ ?_
        change wpAnyIn _ _ _ _ _ _ _ _ _ (World.drew _)
        refine wpAnyIn_take (i := 0) (v := .pointer (some ⟨xb, 0, none⟩)) rfl rfl (by kernel_rfl) (by kernel_rfl) (by kernel_rfl) (fun _ _ _ h => h) ⟨Or.inl ⟨by rfl, ?_⟩, fun _ => rfl⟩ ?_
        · intro w
          go_simp
        refine wpAnyIn_take (i := 4) (v := .pointer (some ⟨xb, 0, none⟩)) rfl rfl (by kernel_rfl) (by kernel_rfl) (by kernel_rfl) (fun _ _ _ h => h) ⟨Or.inl ⟨by rfl, ?_⟩, fun _ => rfl⟩ ?_
        · intro w
          go_simp
        refine wpAnyIn_take (i := 1) (v := .pointer (some ⟨xb, 0, none⟩)) rfl rfl (by kernel_rfl) (by kernel_rfl) (by kernel_rfl) (fun _ _ _ h => h) ⟨Or.inl ⟨by rfl, ?_⟩, fun _ => rfl⟩ ?_
        · intro w
          go_simp
        refine wpAnyIn_take (i := 5) (v := .pointer (some ⟨xb, 0, none⟩)) rfl rfl (by kernel_rfl) (by kernel_rfl) (by kernel_rfl) (fun _ _ _ h => h) ⟨Or.inl ⟨by rfl, ?_⟩, fun _ => rfl⟩ ?_
        · intro w
          go_simp
        refine wpAnyIn_take (i := 2) (v := .pointer (some ⟨xb, 0, none⟩)) rfl rfl (by kernel_rfl) (by kernel_rfl) (by kernel_rfl) (fun _ _ _ h => h) ⟨Or.inl ⟨by rfl, ?_⟩, fun _ => rfl⟩ ?_
        · intro w
          go_simp
        refine wpAnyIn_take (i := 6) (v := .pointer (some ⟨xb, 1, none⟩)) rfl rfl (by kernel_rfl) (by kernel_rfl) (by kernel_rfl) (fun _ _ _ h => h) ⟨Or.inl ⟨by rfl, ?_⟩, fun _ => rfl⟩ ?_
        · intro w
          go_simp
        refine wpAnyIn_ready (rs := [3, 7]) (by kernel_rfl) (by simp) ?_
        refine AllReadyIn.cons rfl (fun K hK => ?_) ?_
        · go_simp
          refine hK _ _ ?_
          clear hK K
          refine wpAnyIn_ready (rs := [7]) (by kernel_rfl) (by simp) ?_
          refine AllReadyIn.cons rfl (fun K hK => ?_) AllReadyIn.nil
          go_simp
          refine hK _ _ ?_
          clear hK K
          refine wpAnyIn_ready (rs := [8]) (by kernel_rfl) (by simp) ?_
          refine AllReadyIn.cons rfl (fun K hK => ?_) AllReadyIn.nil
          go_simp
          refine hK _ _ ?_
          clear hK K
          refine wpAnyIn_ready (rs := [9]) (by kernel_rfl) (by simp) ?_
          refine AllReadyIn.cons rfl (fun K hK => ?_) AllReadyIn.nil
          go_simp
          refine ⟨trivial, ?_⟩
          refine ((callsIn_wide (n := 2)).2 (unhide HTX)).mono ?_
          rintro e w6 ⟨rfl, v6, hW6, hT6, hL6⟩
          have bel : Below w.heap.size W w6 := ((Below.refl _ W).drew).trans ((unhide HWD).below hT6 (Nat.le_refl _))
          have R6 : Hid (KeepsFrom (w5.alloc (.cells #[.pointer tp] 65)).heap.size W w6 ∧ Below w.heap.size W w6 ∧ (∃ v, Wr w6 w.heap.size v (xs5 ++ kvsL ((pre ++ [(⟨(xb, xk, xv), hxx⟩ : LfA w w.heap.size)]).map fun x => x.1.2))) ∧ Below w.heap.size w w6) := hide ⟨((KeepsOthers.drew W).trans (wr_keeps (unhide HWD) hT6)).from _, bel, ⟨v6, by rw [List.map_append, kvsL_app, ← List.append_assoc]; simpa [kvsL] using hW6⟩, hB.trans bel⟩
          clear hW6 hT6 hL6 bel
          refine hK _ _ ?_
          clear hK K
          refine wpAnyIn_done (by kernel_rfl) ?_ _
          exact unhide R6
        refine AllReadyIn.cons rfl (fun K hK => ?_) AllReadyIn.nil
        go_simp
        refine hK _ _ ?_
        clear hK K
        refine wpAnyIn_ready (rs := [3]) (by kernel_rfl) (by simp) ?_
        refine AllReadyIn.cons rfl (fun K hK => ?_) AllReadyIn.nil
        go_simp
        refine hK _ _ ?_
        clear hK K
        refine wpAnyIn_ready (rs := [8]) (by kernel_rfl) (by simp) ?_
        refine AllReadyIn.cons rfl (fun K hK => ?_) AllReadyIn.nil
        go_simp
        refine hK _ _ ?_
        clear hK K
        refine wpAnyIn_ready (rs := [9]) (by kernel_rfl) (by simp) ?_
        refine AllReadyIn.cons rfl (fun K hK => ?_) AllReadyIn.nil
        go_simp
        refine ⟨trivial, ?_⟩
        refine ((callsIn_wide (n := 2)).2 (unhide HTX)).mono ?_
        rintro e w6 ⟨rfl, v6, hW6, hT6, hL6⟩
        have bel : Below w.heap.size W w6 := ((Below.refl _ W).drew).trans ((unhide HWD).below hT6 (Nat.le_refl _))
        have R6 : Hid (KeepsFrom (w5.alloc (.cells #[.pointer tp] 65)).heap.size W w6 ∧ Below w.heap.size W w6 ∧ (∃ v, Wr w6 w.heap.size v (xs5 ++ kvsL ((pre ++ [(⟨(xb, xk, xv), hxx⟩ : LfA w w.heap.size)]).map fun x => x.1.2))) ∧ Below w.heap.size w w6) := hide ⟨((KeepsOthers.drew W).trans (wr_keeps (unhide HWD) hT6)).from _, bel, ⟨v6, by rw [List.map_append, kvsL_app, ← List.append_assoc]; simpa [kvsL] using hW6⟩, hB.trans bel⟩
        clear hW6 hT6 hL6 bel
        refine hK _ _ ?_
        clear hK K
        refine wpAnyIn_done (by kernel_rfl) ?_ _
        exact unhide R6
      case done =>
        rintro D ys W hD rfl ⟨⟨v6, hW6⟩, hB6⟩ hK
        rw [hTl] at hW6
        have c6 := ((unhide HBK).below hB6).cell 2 rfl
        have HKL := hide (kvsL_len (lvsO o) (fun y hy => by
          rw [← hTl] at hy
          simp only [List.mem_map] at hy
          obtain ⟨z, _, rfl⟩ := hy
          exact z.2.2.2.2))
        have HX6 : Hid ((xs5 ++ kvsL (lvsO o)).length ≤ 6000) := hide (by
          have h1 := unhide HKL
          rw [lvsO_len] at h1
          rw [List.length_append, ← hxs, List.length_append, encN_len]
          have := unhide HXL3
          omega)
        have HW6 := hide hW6
        have HB6 := hide hB6
        have HK6 := hide hK
        clear hW6 hB6 hK hW7 hB7 bP hBA hT hTl hN
        gi_wp2_with fail
        refine ⟨trivial, ?_⟩
        refine ((callsIn_wide (n := 4)).2 (numbers_new1 w.heap.size 1 1 rfl v6 _ (ss.length : Int) W (unhide HW6) _ rfl (by omega) (by omega) (by omega) (by have := unhide HX6; omega))).mono ?_
        rintro e w7 ⟨rfl, v7, hW7, hT7, hL7⟩
        have B7 := hide ((unhide HB6).trans ((unhide HW6).below hT7 (Nat.le_refl _)))
        have K7 := hide ((wr_keeps (unhide HW6) hT7).same D _ (unhide HK6) rfl)
        have W7 := hide hW7
        have c7 := ((unhide HBK).below (unhide B7)).cell 2 rfl
        clear hW7 hT7 hL7 HW6 HB6 HK6 c6
        generalize hxs7 : xs5 ++ kvsL (lvsO o) ++ encN ss.length 1 = xs7 at *
        have HX7 : Hid (xs7.length ≤ 6001) := hide (by rw [← hxs7, List.length_append, encN_len]; have := unhide HX6; omega)
        gi_wp2_with fail
        gi_loopw [64] (fun i wr => ∃ (k : Nat) (v : Value), k ≤ ss.length ∧ i = .int .i64 k ∧ Wr wr w.heap.size v (xs7 ++ sesLs (ss.take k)) ∧ Below w.heap.size w wr ∧ wr.heap[D]? = some (.deferred (some []))) (fun i _ => ss.length - (intOf i).toNat)
        case atStart => exact ⟨0, v7, Nat.zero_le _, rfl, by simpa [sesLs] using unhide W7, unhide B7, unhide K7⟩
        case round =>
          obtain ⟨k, v, hk, rfl, hW, hb, hKD⟩ := hrel
          clear W7 B7 K7 c7
          have HB := hide hb
          have HW := hide hW
          have HKD := hide hKD
          by_cases hlt : k < ss.length
          · obtain ⟨a', cap', hv', hn', hm', hc'⟩ := unhide HZZ
            simp only [Value.slice.injEq, true_and] at hv'
            obtain ⟨ha', rfl⟩ := hv'
            obtain ⟨b, off, hb', hbl, hsrc⟩ : ∃ b off, a' = some ⟨b, off, none⟩ ∧ b < w.heap.size ∧ ∀ i, i < ss.length → w.cell? ⟨b, off + i * 5, none⟩ = some (.int .i64 (ss.getD i default).id) ∧ w.cell? ⟨b, off + i * 5 + 1, none⟩ = some (.int .i64 (ss.getD i default).sq) ∧ w.cell? ⟨b, off + i * 5 + 2, none⟩ = some (.int .i64 (ss.getD i default).kd) ∧ w.cell? ⟨b, off + i * 5 + 3, none⟩ = some (.int .i64 (ss.getD i default).pl) ∧ w.cell? ⟨b, off + i * 5 + 4, none⟩ = some (.string (ss.getD i default).vl) := by
              rcases hc' with h0 | h1
              · omega
              · exact h1
            rw [← ha'] at hb'
            simp only [Option.some.injEq, Addr.mk.injEq, and_true] at hb'
            obtain ⟨rfl, rfl⟩ := hb'
            obtain ⟨s0, s1, s2, s3, s4⟩ := hsrc k hlt
            obtain ⟨⟨p0, p1⟩, ⟨p2, p3⟩, ⟨p4, p5⟩, ⟨p6, p7⟩, p8⟩ := ses_bounds (unhide HSB).2 hlt
            have e0 := (hb.cell (p := ⟨h, 0 + k * 5, none⟩) hbl).trans s0
            have e1 := (hb.cell (p := ⟨h, 0 + k * 5 + 1, none⟩) hbl).trans s1
            have e2 := (hb.cell (p := ⟨h, 0 + k * 5 + 2, none⟩) hbl).trans s2
            have e3 := (hb.cell (p := ⟨h, 0 + k * 5 + 3, none⟩) hbl).trans s3
            have e4 := (hb.cell (p := ⟨h, 0 + k * 5 + 4, none⟩) hbl).trans s4
            rw [Nat.zero_add] at e0 e1 e2 e3 e4
            have hk0 : (0 : Int) ≤ (k : Int) := by omega
            have hk1 : (k : Int) < (ss.length : Int) := by omega
            have HTN := hide (take_next ss k default hlt)
            have HXK := hide (show (xs7 ++ sesLs (ss.take k)).length ≤ 6800 by
              have h1 := sesT_len (unhide HSB).2 k (by omega)
              rw [List.length_append]
              have := unhide HX7
              omega)
            generalize ss.getD k default = f at *
            obtain ⟨f0, f1, f2, f3, f4⟩ := f
            dsimp only at e0 e1 e2 e3 e4 p0 p1 p2 p3 p4 p5 p6 p7 p8 HTN
            have HXS : Hid (xs7 ++ sesLs (ss.take k) ++ (encN f0 2 ++ encN f1 2) ++ (encN f2 1 ++ encN f3 1) ++ textsL [f4] = xs7 ++ sesLs (ss.take (k + 1))) := hide (by
              rw [unhide HTN, sesLs_app]
              simp [sesLs, sesL1, List.append_assoc])
            have BA := (Below.refl wr.heap.size wr).alloc (Nat.le_refl _) (.cells #[.int .i64 f0, .int .i64 f1, .int .i64 f2, .int .i64 f3, .string f4] 86)
            have B8 := hide ((unhide HB).trans (BA.mono (unhide HB).size))
            have W8 := hide ((unhide HW).alloc (.cells #[.int .i64 f0, .int .i64 f1, .int .i64 f2, .int .i64 f3, .string f4] 86))
            have K8 := hide ((KeepsOthers.alloc wr (.cells #[.int .i64 f0, .int .i64 f1, .int .i64 f2, .int .i64 f3, .string f4] 86)).same D _ (unhide HKD) rfl)
            have Y8 := hide (Blk.new wr #[.int .i64 f0, .int .i64 f1, .int .i64 f2, .int .i64 f3, .string f4] 86 wr.heap.size rfl)
            have HVB := hide (fun q (hq : v.ownBlock = some q) => (hW.row q hq).2)
            have hwb := (unhide HB).size
            have hwlt := hW.lt
            have HSZ8 : Hid ((wr.alloc (.cells #[.int .i64 f0, .int .i64 f1, .int .i64 f2, .int .i64 f3, .string f4] 86)).heap.size = wr.heap.size + 1) := hide (by simp)
            clear hsrc s0 s1 s2 s3 s4 hW hb hKD BA hc' hm' hn' ha'
            gi_wp2_with fail
            clear e0 e1 e2 e3 e4
            generalize wr.alloc (.cells #[.int .i64 f0, .int .i64 f1, .int .i64 f2, .int .i64 f3, .string f4] 86) = w8 at *
            refine ⟨trivial, ?_⟩
            refine ((callsIn_wide (n := 4)).2 (numbers_new2 w.heap.size 2 2 rfl v _ f0 f1 w8 (unhide W8) (wr.heap.size + 1) (unhide HSZ8) (by omega) (by omega) (by omega) (by omega) (by omega) (by have := unhide HXK; omega))).mono ?_
            rintro e w9 ⟨rfl, v9, hW9, hT9, hL9⟩
            have B9 := hide ((unhide B8).trans ((unhide W8).below hT9 (Nat.le_refl _)))
            have K9 := hide ((wr_keeps (unhide W8) hT9).same D _ (unhide K8) rfl)
            have hsz8 := unhide HSZ8
            have Y9 := hide ((unhide Y8).kept hT9 (fun e => by rcases e with e | e; omega; have := unhide HVB _ e; omega))
            have HV9 := hide (show ∀ q, v9.ownBlock = some q → q ≠ wr.heap.size from fun q hq => by rcases hL9 q hq with e | e; have := unhide HVB _ e; omega; omega)
            have W9 := hide hW9
            have y2 := (unhide Y9).cell 2 rfl
            have y3 := (unhide Y9).cell 3 rfl
            clear hW9 hT9 hL9 W8 B8 K8 Y8 HVB hsz8
            gi_wp2_with fail
            refine ⟨trivial, ?_⟩
            refine ((callsIn_wide (n := 4)).2 (numbers_new2 w.heap.size 1 1 rfl v9 _ f2 f3 w9 (unhide W9) _ rfl (by omega) (by omega) (by omega) (by omega) (by omega) (by have := unhide HXK; simp only [List.length_append, encN_len] at this ⊢; omega))).mono ?_
            rintro e w10 ⟨rfl, v10, hW10, hT10, hL10⟩
            have B10 := hide ((unhide B9).trans ((unhide W9).below hT10 (Nat.le_refl _)))
            have K10 := hide ((wr_keeps (unhide W9) hT10).same D _ (unhide K9) rfl)
            have Y10 := hide ((unhide Y9).kept hT10 (fun e => by rcases e with e | e; omega; exact unhide HV9 _ e rfl))
            have W10 := hide hW10
            have y4 := (unhide Y10).cell 4 rfl
            clear hW10 hT10 hL10 W9 B9 K9 Y9 HV9 y2 y3
            gi_wp2_with fail
            refine ⟨trivial, ?_⟩
            refine ((callsIn_wide (n := 4)).2 (texts_new1 w.heap.size v10 _ f4 w10 (unhide W10) _ rfl (by omega) (by have := unhide HXK; simp only [List.length_append, encN_len] at this ⊢; omega))).mono ?_
            rintro e w11 ⟨rfl, v11, hW11, hT11, hL11⟩
            have B11 := hide ((unhide B10).trans ((unhide W10).below hT11 (Nat.le_refl _)))
            have K11 := hide ((wr_keeps (unhide W10) hT11).same D _ (unhide K10) rfl)
            rw [unhide HXS] at hW11
            have W11 := hide hW11
            clear hW11 hT11 hL11 W10 B10 K10 Y10 y4
            gi_wp2_with fail
            refine ⟨⟨k + 1, v11, by omega, by go_num, unhide W11, unhide B11, unhide K11⟩, ?_⟩
            simp [intOf]; omega
          · obtain rfl : k = ss.length := by omega
            rw [List.take_length] at hW
            have hc0 := hW.1
            have HWF := hide hW
            have HFI : Hid (∀ o', OwnB w.heap.size (wr.putObj D o') v (snapL ls o ss) ∧ Below w.heap.size w (wr.putObj D o')) := hide (fun o' => by
              have hT : Touch (fun q => q = D) wr (wr.putObj D o') := (Touch.refl (fun q => q = D) wr).grown (grownBy_putObj' wr D o') (fun q hq _ => by cases hq; rfl)
              have hnD : ∀ q, WT w.heap.size v q → q ≠ D := fun q hq e => by
                subst e
                obtain ⟨o9, h9, h10⟩ := wr_cells hW q hq
                rw [hKD] at h9
                cases h9
                cases h10
              have e9 : xs7 ++ sesLs ss = snapL ls o ss := by rw [← hxs7, ← hxs]; simp [snapL, List.append_assoc]
              have h8 : OwnB (w.heap.size + 1) wr v (xs7 ++ sesLs ss) := ⟨hW.2.2.2.1, hW.2.2.2.2⟩
              rw [e9] at h8
              refine ⟨(h8.kept hT (fun q hq => hnD q (.inr hq))).mono (by omega), hb.trans (hT.below hb.size (fun q hq e => ?_))⟩
              simp at hD
              omega)
            clear hW hb HW HWF
            gi_wp2_with fail
            refine ⟨by simp, .inl ⟨_, _, rfl, run_takeDeferred (unhide HKD), ?_⟩⟩
            exact ⟨_, results_tmp rfl _ _ _, _, rfl, (unhide HFI _).1, (unhide HFI _).2⟩
      case stop =>
        rintro D c pre W _ _ h _
        exact h.elim
end Go.Proofs.YtgmaappilopgbaaDoor.Sha
