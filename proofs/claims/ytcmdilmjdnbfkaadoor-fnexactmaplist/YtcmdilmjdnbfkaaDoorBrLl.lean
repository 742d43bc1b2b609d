/- The specification's l07List and MapList. -/
import Derived.Test.YtcmdilmjdnbfkaaDoorBrW
import Derived.Test.YtcmdilmjdnbfkaaDoorBrPu
import Derived.Test.YtcmdilmjdnbfkaaDoorBrVi
import Derived.Test.YtcmdilmjdnbfkaaDoorCs
import Derived.Test.YtcmdilmjdnbfkaaDoorAppR
import Derived.Deep.RegionHeld3
namespace Go.Proofs.YtcmdilmjdnbfkaaDoor.Sha
open Go.ChangeShapes Go.WideShapes Go.ChangeAt Go.RowKit
set_option linter.unusedVariables false
set_option linter.unusedSimpArgs false

/-- The commands that put what a map holds, in its order. -/
def Tr.cms (t : Tr) : List Cm := t.lvs.map fun p => ⟨1, 0, 0, p.1, p.2⟩
def cmsO : Option Tr → List Cm
  | none => []
  | some t => t.cms
def mlOut (b : Br) : List Cm × Int := match mapV b with
  | none => ([], 1)
  | some o => (cmsO o, 0)
theorem lvs_lvN : ∀ t : Tr, t.lvs.length = t.lvN
  | .leaf _ _ => rfl
  | .fork _ _ l r => by show (l.lvs ++ r.lvs).length = l.lvN + r.lvN; rw [List.length_append, lvs_lvN l, lvs_lvN r]
theorem cms_len (t : Tr) : t.cms.length = t.lvN := by rw [Tr.cms, List.length_map, lvs_lvN]
theorem cms_fork (a : Nat) (h : ByteArray) (l r : Tr) : (Tr.fork a h l r).cms = l.cms ++ r.cms := by show (l.lvs ++ r.lvs).map _ = _; rw [List.map_append]; rfl
theorem grownO {w5 w6 : World} {r : Option Nat} (hg : w5.grownBy w6 r) : Touch (fun q => r = some q) w5 w6 := (Touch.refl _ w5).grown hg (fun q hq _ => hq)
/-- A block of one command, as a slice. -/
theorem cm_rw (w : World) (f : Cm) (ty : TypeId) : Rw (w.alloc (.cells #[.int .i64 f.kd, .int .i64 f.ss, .int .i64 f.sq, .string f.ky, .string f.vl] ty)) (.slice (some ⟨w.heap.size, 0, none⟩) 1 1) 1 (cmC f) := by
  refine ⟨_, _, rfl, .inr ⟨_, rfl, fun j u hu => ?_⟩⟩
  have N := Blk.new w #[.int .i64 f.kd, .int .i64 f.ss, .int .i64 f.sq, .string f.ky, .string f.vl] ty w.heap.size rfl
  have hadd : (⟨w.heap.size, 0, none⟩ : Addr).add j = ⟨w.heap.size, j, none⟩ := by unfold Addr.add; split <;> simp_all
  rw [hadd]
  exact N.cell j hu
theorem own_push {B : Nat} {w : World} {v : Value} {l : List Cm} {f : Cm} (h : w.ownsRow B 94 5 v (l.length + 1) (csC l ++ cmC f)) : OwnC B w v (l ++ [f]) := by
  unfold OwnC
  rw [csC_app, List.length_append, show csC [f] = cmC f from rfl]
  exact h
/-- What l07List answers: the list, longer by the map's commands; what it has written. -/
def LiR (B : Nat) (ov : Value) (l : List Cm) (w : World) (e : Ending) (w' : World) : Prop := ∃ v, e = .returned v ∧ OwnC B w' v l ∧ Touch (fun q => ov.ownBlock = some q) w w' ∧ (∀ q, v.ownBlock = some q → ov.ownBlock = some q ∨ w.heap.size ≤ q)
set_option maxRecDepth 100000 in
set_option maxHeartbeats 4000000 in
theorem l07List_any : ∀ (t : Tr), TrOK t → ∀ (B : Nat) (S : Nat → Prop) (kv ov : Value) (l : List Cm) (w : World), (∀ q, S q → q < w.heap.size ∧ ov.ownBlock ≠ some q) → B ≤ w.heap.size → Brs S w kv t.toBr.kids → OwnC B w ov l → l.length + t.lvN ≤ 1000 →
    Calls Tryd.prog 68 #[.agg #[.string t.toBr.key, .string t.toBr.val, .int .i64 t.toBr.at_, kv], ov] w fun e w' => LiR B ov (l ++ t.cms) w e w' := by
  intro t
  induction t with
  | leaf k v =>
    intro hok B S kv ov l w hSo hBw hB hO hsz
    obtain ⟨sa, cap, rfl, _, hcm⟩ := hB.shape
    have HNE := not_empty hok
    have hk := (okK_iff.1 hok.1).2
    have hv : v.size ≤ 60 := hok.2
    have hsz2 : l.length + 1 ≤ 1000 := hsz
    dsimp only [Tr.toBr, Br.key, Br.val, Br.at_, Br.kids] at HNE ⊢
    have B0 := hide ((Below.refl w.heap.size w).alloc (Nat.le_refl _) (.cells #[.string k, .string v, .int .i64 256, .slice sa 0 cap] 37))
    have X0 := hide (Blk.new w #[.string k, .string v, .int .i64 256, .slice sa 0 cap] 37 w.heap.size rfl)
    have HE := hide (fun wx => l07Empty_any k v 256 [] sa cap wx (by simp))
    have HLF := hide (fun wx => l07Leaf_any k v 256 sa 0 cap wx (by omega))
    rw [HNE] at HE
    simp only [List.length_nil] at HE
    rw [show decide (0 = 0) = true from rfl] at HLF
    have HO := hide hO
    have HLO := hide (hO.lt)
    have HV : Hid ((Tr.leaf k v).cms = [⟨1, 0, 0, k, v⟩]) := rfl
    generalize (Tr.leaf k v).cms = D at *
    clear hB hok HNE hO hSo hsz
    obtain ⟨i0, hi, hz0, hz1, hz2⟩ := info_parts infoCm
    go_enter Tryd.func68, Tryd.ntmps68
    go_wp2_with fail
    generalize w.alloc (.cells #[.string k, .string v, .int .i64 256, .slice sa 0 cap] 37) = w1 at *
    refine (unhide HE w1).mono ?_
    rintro e w2 ⟨rfl, hb2⟩
    have B2 := hide ((unhide B0).trans (hb2.mono (unhide B0).size))
    have X2 := hide ((unhide X0).below hb2)
    clear hb2
    have x0 := (unhide X2).cell 0 rfl
    have x1 := (unhide X2).cell 1 rfl
    have x2 := (unhide X2).cell 2 rfl
    have x3 := (unhide X2).cell 3 rfl
    go_wp2_with fail
    refine (unhide HLF w2).mono ?_
    rintro e w3 ⟨rfl, hb3⟩
    have B3 := hide ((unhide B2).trans (hb3.mono (unhide B2).size))
    have X3 := hide ((unhide X2).below hb3)
    clear hb3 x0 x1 x2 x3 HE HLF X2 B2 X0 B0
    have x0 := (unhide X3).cell 0 rfl
    have x1 := (unhide X3).cell 1 rfl
    have BA := (Below.refl w3.heap.size w3).alloc (Nat.le_refl _) (.cells #[.int .i64 1, .int .i64 0, .int .i64 0, .string k, .string v] 94)
    have B4 := hide ((unhide B3).trans (BA.mono (unhide B3).size))
    have O4 : Hid ((w3.alloc (.cells #[.int .i64 1, .int .i64 0, .int .i64 0, .string k, .string v] 94)).ownsRow B 94 5 ov l.length (csC l)) := hide ((unhide HO).below (unhide B4))
    have HRW := hide (cm_rw w3 ⟨1, 0, 0, k, v⟩ 94)
    have H1C : Hid (∀ u ∈ cmC ⟨1, 0, 0, k, v⟩, u.oneCell' = true) := hide (by simp [cmC, Value.oneCell'])
    have hBs : B ≤ (w3.alloc (.cells #[.int .i64 1, .int .i64 0, .int .i64 0, .string k, .string v] 94)).heap.size := by have := (unhide B4).size; omega
    clear BA
    go_wp2_with (at_builtin; refine wpList_append_row _ rfl _ _ _ rfl B 94 i0 _ 5 56 Tryd.underlying46 hi hz0 hz1 hz2 rfl (by omega) _ l.length (csC l) rfl (unhide O4) _ 1 (cmC ⟨1, 0, 0, k, v⟩) rfl (unhide HRW) rfl (unhide H1C) (by unfold maxLen; omega) (by omega) hBs ?_; intro a6 c6 w6 hown6 hgrow6 hat6; have R6 := hide (And.intro hown6 (And.intro hgrow6 hat6)); clear hown6 hgrow6 hat6)
    go_ret
    obtain ⟨hown6, hgrow6, hat6⟩ := unhide R6
    refine ⟨_, rfl, by rw [unhide HV]; exact own_push hown6, (Touch.ofBelow (unhide B4)).trans (grownO hgrow6) (fun _ _ h => h), fun q hq => ?_⟩
    rcases hat6 with h | h
    · exact .inl (h.symm.trans hq)
    · have h2 := h.symm.trans hq
      have h3 := (unhide B4).size
      cases h2
      exact .inr h3
  | fork a hh lt rt ihl ihr =>
    intro hok B S kv ov l w hSo hBw hB hO hsz
    obtain ⟨sa, cap, rfl, _, hcm⟩ := hB.shape
    have HNE := not_empty hok
    obtain ⟨ha, _, okl, okr⟩ := hok
    dsimp only [Tr.toBr, Br.key, Br.val, Br.at_, Br.kids] at HNE hB ⊢
    have B0 := hide ((Below.refl w.heap.size w).alloc (Nat.le_refl _) (.cells #[.string ⟨#[]⟩, .string ⟨#[]⟩, .int .i64 a, .slice sa 2 cap] 37))
    have X0 := hide (Blk.new w #[.string ⟨#[]⟩, .string ⟨#[]⟩, .int .i64 a, .slice sa 2 cap] 37 w.heap.size rfl)
    have HE := hide (fun wx => l07Empty_any ⟨#[]⟩ ⟨#[]⟩ a [lt.toBr, rt.toBr] sa cap wx (by unfold maxLen; simp))
    have HLF := hide (fun wx => l07Leaf_any ⟨#[]⟩ ⟨#[]⟩ a sa 2 cap wx (by unfold maxLen; omega))
    rw [HNE] at HE
    rw [show decide (2 = 0) = false from rfl] at HLF
    obtain ⟨bb, off, kvf, rfl, _, hat⟩ := hB.at (by simp)
    have hbb := hat.lt
    have hbS : S bb := hat.here
    obtain ⟨s00, s01, s02, s03⟩ := hat.cells 0 (by simp)
    obtain ⟨s10, s11, s12, s13⟩ := hat.cells 1 (by simp)
    have K0 := hide (hat.kids 0 (by simp))
    have K1 := hide (hat.kids 1 (by simp))
    simp only [List.getD_cons_zero, List.getD_cons_succ, Nat.zero_mul, Nat.add_zero, Nat.one_mul] at s00 s01 s02 s03 s10 s11 s12 s13 K0 K1
    obtain ⟨ka0, kc0, hkv0, _, _⟩ := (unhide K0).shape
    obtain ⟨ka1, kc1, hkv1, _, _⟩ := (unhide K1).shape
    rw [hkv0] at K0 s03
    rw [hkv1] at K1 s13
    have hcl := cms_len lt
    have hz2 : l.length + (lt.lvN + rt.lvN) ≤ 1000 := hsz
    have hbo := (hSo bb hbS).2
    have HO := hide hO
    have HL := hide (fun wx (hx : Below w.heap.size w wx) => ihl okl B S _ ov l wx (fun q hq => ⟨Nat.lt_of_lt_of_le (hSo q hq).1 hx.size, (hSo q hq).2⟩) (Nat.le_trans hBw hx.size) ((unhide K0).blw hx) (hO.below hx) (by omega))
    have HR := hide (fun wx v1 (hx : Touch (fun q => ov.ownBlock = some q) w wx) (h1 : OwnC B wx v1 (l ++ lt.cms)) (h2 : ∀ q, v1.ownBlock = some q → ov.ownBlock = some q ∨ w.heap.size ≤ q) => ihr okr B S _ v1 (l ++ lt.cms) wx (fun q hq => ⟨Nat.lt_of_lt_of_le (hSo q hq).1 hx.size, fun e => (h2 q e).elim (hSo q hq).2 (fun h => by have := (hSo q hq).1; omega)⟩) (Nat.le_trans hBw hx.size) ((unhide K1).touch hx (fun q hq => (hSo q hq).2)) h1 (by rw [List.length_append, hcl]; omega))
    have HV : Hid (l ++ (Tr.fork a hh lt rt).cms = (l ++ lt.cms) ++ rt.cms) := hide (by rw [cms_fork, List.append_assoc])
    have HLO := hide (hO.lt)
    clear hB hat hkv0 hkv1 K0 K1 ihl ihr HNE hO hSo hz2 hcl hsz
    generalize (Tr.fork a hh lt rt).cms = D at *
    generalize lt.toBr = b0 at *
    generalize rt.toBr = b1 at *
    generalize lt.cms = dl at *
    generalize rt.cms = dr at *
    simp only [List.length_cons, List.length_nil] at HE
    go_enter Tryd.func68, Tryd.ntmps68
    go_wp2_with fail
    generalize w.alloc (.cells #[.string ⟨#[]⟩, .string ⟨#[]⟩, .int .i64 a, .slice (some ⟨bb, off, none⟩) 2 cap] 37) = w1 at *
    refine (unhide HE w1).mono ?_
    rintro e w2 ⟨rfl, hb2⟩
    have B2 := hide ((unhide B0).trans (hb2.mono (unhide B0).size))
    have X2 := hide ((unhide X0).below hb2)
    clear hb2
    have x0 := (unhide X2).cell 0 rfl
    have x1 := (unhide X2).cell 1 rfl
    have x2 := (unhide X2).cell 2 rfl
    have x3 := (unhide X2).cell 3 rfl
    go_wp2_with fail
    refine (unhide HLF w2).mono ?_
    rintro e w3 ⟨rfl, hb3⟩
    have B3 := hide ((unhide B2).trans (hb3.mono (unhide B2).size))
    have X3 := hide ((unhide X2).below hb3)
    clear hb3 x0 x1 x2 x3
    have hX := (unhide X3).1
    have hw3 := (unhide B3).size
    have hXo : ov.ownBlock ≠ some w.heap.size := fun e => by have := (unhide HLO _ e).2; omega
    have HSX : Hid (∀ wx, Touch (fun q => ov.ownBlock = some q) w3 wx → wx.cell? ⟨w.heap.size, 3, none⟩ = some (.slice (some ⟨bb, off, none⟩) 2 cap) ∧ wx.cell? ⟨bb, off, none⟩ = some (.string b0.key) ∧ wx.cell? ⟨bb, off + 1, none⟩ = some (.string b0.val) ∧ wx.cell? ⟨bb, off + 2, none⟩ = some (.int .i64 b0.at_) ∧ wx.cell? ⟨bb, off + 3, none⟩ = some (.slice ka0 b0.kids.length kc0) ∧ wx.cell? ⟨bb, off + 4, none⟩ = some (.string b1.key) ∧ wx.cell? ⟨bb, off + 4 + 1, none⟩ = some (.string b1.val) ∧ wx.cell? ⟨bb, off + 4 + 2, none⟩ = some (.int .i64 b1.at_) ∧ wx.cell? ⟨bb, off + 4 + 3, none⟩ = some (.slice ka1 b1.kids.length kc1)) := hide (fun wx ht => by
      have hb' := (Touch.ofBelow (T := fun q => ov.ownBlock = some q) (unhide B3)).trans ht (fun _ _ h => h)
      have X := (unhide X3).kept ht hXo
      exact ⟨X.cell 3 rfl, (hb'.cell (p := ⟨bb, off, none⟩) hbb hbo).trans s00, (hb'.cell (p := ⟨bb, off + 1, none⟩) hbb hbo).trans s01, (hb'.cell (p := ⟨bb, off + 2, none⟩) hbb hbo).trans s02, (hb'.cell (p := ⟨bb, off + 3, none⟩) hbb hbo).trans s03, (hb'.cell (p := ⟨bb, off + 4, none⟩) hbb hbo).trans s10, (hb'.cell (p := ⟨bb, off + 4 + 1, none⟩) hbb hbo).trans s11, (hb'.cell (p := ⟨bb, off + 4 + 2, none⟩) hbb hbo).trans s12, (hb'.cell (p := ⟨bb, off + 4 + 3, none⟩) hbb hbo).trans s13⟩)
    obtain ⟨y3, t00, t01, t02, t03, t10, t11, t12, t13⟩ := unhide HSX w3 (Touch.refl _ _)
    have T3 := hide (Touch.ofBelow (T := fun q => ov.ownBlock = some q) (unhide B3))
    have HL3 := hide (unhide HL w3.drew (below_drewN (unhide B3) 1))
    have HR3 := hide (fun w4 v1 (h0 : Touch (fun q => ov.ownBlock = some q) w3 w4) (h1 : OwnC B w4 v1 (l ++ dl)) (h2 : ∀ q, v1.ownBlock = some q → ov.ownBlock = some q ∨ w3.heap.size ≤ q) => unhide HR w4 v1 ((unhide T3).trans h0 (fun _ _ h => h)) h1 (fun q hq => (h2 q hq).imp id (fun h => Nat.le_trans hw3 h)))
    have HEND : Hid (∀ (w4 : World) (v1 : Value) (w5 : World) (v2 : Value), Touch (fun q => ov.ownBlock = some q) w3 w4 → (∀ q, v1.ownBlock = some q → ov.ownBlock = some q ∨ w3.heap.size ≤ q) → Touch (fun q => v1.ownBlock = some q) w4 w5 → (∀ q, v2.ownBlock = some q → v1.ownBlock = some q ∨ w4.heap.size ≤ q) → OwnC B w5 v2 ((l ++ dl) ++ dr) → LiR B ov (l ++ D) w (.returned v2) w5) := hide (fun w4 v1 w5 v2 h1 h2 h3 h4 h5 => by
      refine ⟨v2, rfl, by rw [unhide HV]; exact h5, ((unhide T3).trans h1 (fun _ _ h => h)).trans h3 (fun q hq h => (h2 q h).elim id (fun h' => by omega)), fun q hq => ?_⟩
      rcases h4 q hq with h | h
      · rcases h2 q h with h' | h'
        · exact .inl h'
        · exact .inr (Nat.le_trans hw3 h')
      · exact .inr (Nat.le_trans (Nat.le_trans hw3 h1.size) h))
    have HMV := hide (fun (w4 : World) (v1 : Value) (w5 : World) (h1 : Touch (fun q => ov.ownBlock = some q) w3 w4) (h2 : ∀ q, v1.ownBlock = some q → ov.ownBlock = some q ∨ w3.heap.size ≤ q) (h3 : Touch (fun q => v1.ownBlock = some q) w4 w5) => h1.trans h3 (fun q hq h => (h2 q h).elim id (fun h' => by omega)))
    clear s00 s01 s02 s03 s10 s11 s12 s13 HL HR HE HLF X2 B2 X0 B0
    go_wp2_with fail
    go_region_held3 (fun wx => wx.cell? ⟨w.heap.size, 3, none⟩ = some (.slice (some ⟨bb, off, none⟩) 2 cap) ∧ wx.cell? ⟨bb, off, none⟩ = some (.string b0.key) ∧ wx.cell? ⟨bb, off + 1, none⟩ = some (.string b0.val) ∧ wx.cell? ⟨bb, off + 2, none⟩ = some (.int .i64 b0.at_) ∧ wx.cell? ⟨bb, off + 3, none⟩ = some (.slice ka0 b0.kids.length kc0) ∧ wx.cell? ⟨bb, off + 4, none⟩ = some (.string b1.key) ∧ wx.cell? ⟨bb, off + 4 + 1, none⟩ = some (.string b1.val) ∧ wx.cell? ⟨bb, off + 4 + 2, none⟩ = some (.int .i64 b1.at_) ∧ wx.cell? ⟨bb, off + 4 + 3, none⟩ = some (.slice ka1 b1.kids.length kc1)) (first | go_keep | exact unhide HSX _ hc2 | exact unhide HSX _ hc1) (first
      | (go_at_call 68; refine (unhide HR3 _ _ hc1 hO4 hk4).mono ?_; rintro e w5 ⟨v2, rfl, hO5, hT5, hk5⟩; have hc2 := unhide HMV _ _ _ hc1 hk4 hT5)
      | (go_at_call 68; refine (unhide HL3).mono ?_; rintro e w4 ⟨v1, rfl, hO4, hT4, hk4⟩; have hc1 : Touch (fun q => ov.ownBlock = some q) w3 w4 := (Touch.refl _ w3).drew.trans hT4 (fun _ _ h => h)))
    have K := hide (unhide HEND _ _ _ _ hc1 hk4 hT5 hk5 hO5)
    clear hO4 hO5 hT4 hT5 hk4 hk5 hc1 hc2 y3 t00 t01 t02 t03 t10 t11 t12 t13
    go_wp2_with fail
    go_ret
    exact unhide K
theorem l07ListN_any (B : Nat) (ov : Value) (w : World) (hO : OwnC B w ov []) (sa : Option Addr) (cap : Nat) :
    Calls Tryd.prog 68 #[.agg #[.string ⟨#[]⟩, .string ⟨#[]⟩, .int .i64 0, .slice sa 0 cap], ov] w fun e w' => LiR B ov [] w e w' := by
  have B0 := hide ((Below.refl w.heap.size w).alloc (Nat.le_refl _) (.cells #[.string ⟨#[]⟩, .string ⟨#[]⟩, .int .i64 0, .slice sa 0 cap] 37))
  have HE := hide (fun wx => l07Empty_any ⟨#[]⟩ ⟨#[]⟩ 0 [] sa cap wx (by simp))
  rw [show emptyBr (.mk ⟨#[]⟩ ⟨#[]⟩ 0 []) = true from rfl] at HE
  simp only [List.length_nil] at HE
  have HO := hide hO
  clear hO
  go_enter Tryd.func68, Tryd.ntmps68
  go_wp2_with fail
  generalize w.alloc (.cells #[.string ⟨#[]⟩, .string ⟨#[]⟩, .int .i64 0, .slice sa 0 cap] 37) = w1 at *
  refine (unhide HE w1).mono ?_
  rintro e w2 ⟨rfl, hb2⟩
  have B2 := hide ((unhide B0).trans (hb2.mono (unhide B0).size))
  clear hb2
  go_wp2_with fail
  go_ret
  exact ⟨_, rfl, (unhide HO).below (unhide B2), Touch.ofBelow (unhide B2), fun q hq => .inl hq⟩
theorem cap_le (o : Option Tr) (h : SepO o) : (cmsO o).length ≤ 40 := by
  cases o with
  | none => show 0 ≤ 40; omega
  | some t => show t.cms.length ≤ 40; rw [cms_len]; exact h.2
theorem ml_len (b : Br) : (mlOut b).1.length ≤ 40 := by
  unfold mlOut
  cases h : mapV b with
  | none => show 0 ≤ 40; omega
  | some o => exact cap_le o (mapV_sep h)
set_option maxRecDepth 100000 in
set_option maxHeartbeats 1000000 in
theorem specMapList_any (k v : ByteArray) (a : Int) (ks : List Br) (S : Nat → Prop) (kv : Value) (w : World) (hB : Brs S w kv ks) (hk : k.size ≤ maxLen) (hv : v.size ≤ maxLen) :
    Calls Tryd.prog 27 #[.agg #[.string k, .string v, .int .i64 a, kv]] w fun e w' => ∃ u, e = .returned (.tuple #[u, .int .i64 (mlOut (.mk k v a ks)).2]) ∧ OwnC w.heap.size w' u (mlOut (.mk k v a ks)).1 ∧ Below w.heap.size w w' := by
  obtain ⟨sa, cap, rfl, hcap, hcm⟩ := hB.shape
  have B0 := hide ((Below.refl w.heap.size w).alloc (Nat.le_refl _) (.cells #[.string k, .string v, .int .i64 a, .slice sa ks.length cap] 37))
  have X0 := hide (Blk.new w #[.string k, .string v, .int .i64 a, .slice sa ks.length cap] 37 w.heap.size rfl)
  have HM := hide (fun wx (hx : Below w.heap.size w wx) => specMapOK_any k v a ks S _ wx (hB.blw hx) hk hv)
  have HMB := hide (mapB_V (.mk k v a ks))
  have HO : Hid (mlOut (.mk k v a ks) = match mapV (.mk k v a ks) with | none => ([], 1) | some o => (cmsO o, 0)) := rfl
  have HRT := hide (fun o (h : mapV (.mk k v a ks) = some o) wx (g : Nat) (hx : Below w.heap.size w wx) (hg : w.heap.size ≤ g) (ho : OwnC w.heap.size wx (.slice (some ⟨g, 0, none⟩) 0 0) []) => show Calls Tryd.prog 68 #[.agg #[.string k, .string v, .int .i64 a, .slice sa ks.length cap], .slice (some ⟨g, 0, none⟩) 0 0] wx fun e w' => LiR w.heap.size (.slice (some ⟨g, 0, none⟩) 0 0) (cmsO o) wx e w' by
    obtain ⟨h1, h2⟩ := mapV_br h
    have h3 := mapV_sep h
    have hx2 := hB.bound.blw hx
    cases o with
    | none =>
      cases h1
      exact l07ListN_any _ _ wx ho sa cap
    | some t =>
      have q := l07List_any t h2 w.heap.size _ (.slice sa ks.length cap) (.slice (some ⟨g, 0, none⟩) 0 0) [] wx (fun q hq => ⟨Nat.lt_of_lt_of_le hq hx.size, fun e => by cases e; have hq' : g < w.heap.size := hq; omega⟩) hx.size (by have h1' : Br.mk k v a ks = t.toBr := h1; rw [← h1']; exact hx2) ho (by have := h3.2; simp; omega)
      have h1' : Br.mk k v a ks = t.toBr := h1
      rw [← h1', List.nil_append] at q
      exact q)
  clear hB hk hv
  go_enter Tryd.func27, Tryd.ntmps27
  go_wp2_with fail
  generalize w.alloc (.cells #[.string k, .string v, .int .i64 a, .slice sa ks.length cap] 37) = w1 at *
  refine (unhide HM w1 (unhide B0)).mono ?_
  rintro e w2 ⟨rfl, hb2⟩
  have B2 := hide ((unhide B0).trans (hb2.mono (unhide B0).size))
  have X2 := hide ((unhide X0).below hb2)
  clear hb2 HM
  have x0 := (unhide X2).cell 0 rfl
  have x1 := (unhide X2).cell 1 rfl
  have x2 := (unhide X2).cell 2 rfl
  have x3 := (unhide X2).cell 3 rfl
  have O3 : Hid (OwnC w.heap.size (w2.alloc (.cells #[] 94)) (.slice (some ⟨w2.heap.size, 0, none⟩) 0 0) []) := hide (World.ownsRow_made w2 #[] 0 (unhide B2).size (by unfold maxLen; omega) rfl)
  have B3 := hide ((unhide B2).alloc (unhide B2).size (.cells #[] 94))
  rw [unhide HMB]
  cases hmv : mapV (.mk k v a ks) with
  | none =>
    rw [hmv] at HO
    have HO1 : Hid (mlOut (.mk k v a ks) = ([], 1)) := hide (unhide HO)
    clear hmv HRT HO
    rw [show (none : Option (Option Tr)).isSome = false from rfl]
    go_wp2_with fail
    go_ret2
    exact ⟨_, by rw [unhide HO1]; rfl, by rw [unhide HO1]; exact unhide O3, unhide B3⟩
  | some o =>
    rw [hmv] at HO
    have HO1 : Hid (mlOut (.mk k v a ks) = (cmsO o, 0)) := hide (unhide HO)
    have HRO := hide (unhide HRT o hmv _ w2.heap.size (unhide B3) (unhide B2).size (unhide O3))
    have hw2 := (unhide B2).size
    clear hmv HRT HO
    rw [show (some o).isSome = true from rfl]
    go_wp2_with fail
    refine (unhide HRO).mono ?_
    rintro e w3 ⟨u, rfl, hO3, hT3, _⟩
    have K := hide (And.intro hO3 ((unhide B3).trans (hT3.below (unhide B3).size (fun q hq e => by cases e; have hq' : w2.heap.size < w.heap.size := hq; omega))))
    clear hO3 hT3
    go_wp2_with fail
    go_ret2
    exact ⟨_, by rw [unhide HO1]; rfl, by rw [unhide HO1]; exact (unhide K).1, (unhide K).2⟩
end Go.Proofs.YtcmdilmjdnbfkaaDoor.Sha
