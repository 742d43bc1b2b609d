/- The specification's l07Get; spec.MapGet. Lists of commands: what can be read, what is one's own; the laws' eq, marks, held. The specification's l07List and MapList. spec.l02Two, spec.l02Four; rows known whole. spec.l09Snapshot. Both SnapshotBytes and both SameLedger. -/
import Derived.Test.YtgmaappilopgbaaDoorGua
import Derived.Test.YtgmaappilopgbaaDoorBrC
import Derived.Deep.RegionHeldLaw
import Derived.Deep.RegionLaw
import Derived.Test.YtgmaappilopgbaaDoorStrO
import Derived.Test.YtgmaappilopgbaaDoorStr
import Derived.Deep.RegionHeld3
import Derived.Test.YtgmaappilopgbaaDoorAppR
import Derived.Test.YtgmaappilopgbaaDoorSpG
import Derived.Deep.DeepCutAuto
namespace Go.Proofs.YtgmaappilopgbaaDoor.Sha
open Go.ChangeShapes Go.WideShapes Go.ChangeAt Go.RowKit
set_option linter.unusedVariables false
set_option linter.unusedSimpArgs false

/-- The number in the third cell of a block. -/
def atCell2 (X : Nat) (w : World) : Nat := match w.cell? ⟨X, 2, none⟩ with
  | some (.int _ a) => a.toNat
  | _ => 0
theorem atCell2_is {X : Nat} {w : World} {a : Nat} (h : w.cell? ⟨X, 2, none⟩ = some (.int .i64 a)) : atCell2 X w = a := by
  unfold atCell2
  rw [h]
  simp
theorem toBr_at (t : Tr) : t.toBr.at_ = (t.at_ : Int) := by cases t <;> rfl
/-- What l07Get answers. -/
def GetR (o : Option Tr) (key : ByteArray) (w : World) (e : Ending) (w' : World) : Prop := ∃ (k v : ByteArray) (a : Int) (sa : Option Addr) (n cap : Nat) (fb : Bool), e = .returned (.tuple #[.agg #[.string k, .string v, .int .i64 a, .slice sa n cap], .bool fb]) ∧ Below w.heap.size w w' ∧
  match o with
  | none => fb = false
  | some t => v = (leadL (kh key) t).2 ∧ fb = decide ((leadL (kh key) t).1 = key)
--FI
end Go.Proofs.YtgmaappilopgbaaDoor.Sha
namespace Go.Proofs.YtgmaappilopgbaaDoor
open Go.ChangeShapes Go.WideShapes Go.ChangeAt Go.RowKit
set_option linter.unusedVariables false
set_option linter.unusedSimpArgs false

structure Cm where
  kd : Int
  ss : Int
  sq : Int
  ky : ByteArray
  vl : ByteArray
deriving Inhabited
def cmC (f : Cm) : List Value := [.int .i64 f.kd, .int .i64 f.ss, .int .i64 f.sq, .string f.ky, .string f.vl]
def csC (l : List Cm) : List Value := l.flatMap cmC
/-- The value is a slice that holds these commands. -/
def Css (w : World) (v : Value) (l : List Cm) : Prop :=
  ∃ a cap, v = .slice a l.length cap ∧ l.length ≤ cap ∧ cap ≤ maxLen ∧ (l.length = 0 ∨ ∃ b off, a = some ⟨b, off, none⟩ ∧ b < w.heap.size ∧ ∀ i, i < l.length → w.cell? ⟨b, off + i * 5, none⟩ = some (.int .i64 (l.getD i default).kd) ∧ w.cell? ⟨b, off + i * 5 + 1, none⟩ = some (.int .i64 (l.getD i default).ss) ∧ w.cell? ⟨b, off + i * 5 + 2, none⟩ = some (.int .i64 (l.getD i default).sq) ∧ w.cell? ⟨b, off + i * 5 + 3, none⟩ = some (.string (l.getD i default).ky) ∧ w.cell? ⟨b, off + i * 5 + 4, none⟩ = some (.string (l.getD i default).vl))
theorem Css.below {w w' : World} {v : Value} {l : List Cm} (h : Css w v l) (hb : Below w.heap.size w w') : Css w' v l := by
  obtain ⟨a, cap, hv, hn, hm, hc⟩ := h
  refine ⟨a, cap, hv, hn, hm, ?_⟩
  rcases hc with h0 | ⟨b, off, ha, hlt, hc⟩
  · exact .inl h0
  · exact .inr ⟨b, off, ha, Nat.lt_of_lt_of_le hlt hb.size, fun i hi => ⟨(hb.cell (p := ⟨b, off + i * 5, none⟩) hlt).trans (hc i hi).1, (hb.cell (p := ⟨b, off + i * 5 + 1, none⟩) hlt).trans (hc i hi).2.1, (hb.cell (p := ⟨b, off + i * 5 + 2, none⟩) hlt).trans (hc i hi).2.2.1, (hb.cell (p := ⟨b, off + i * 5 + 3, none⟩) hlt).trans (hc i hi).2.2.2.1, (hb.cell (p := ⟨b, off + i * 5 + 4, none⟩) hlt).trans (hc i hi).2.2.2.2⟩⟩
theorem csC_len (l : List Cm) : (csC l).length = l.length * 5 := by
  induction l with
  | nil => rfl
  | cons f r ih => simp only [csC, List.flatMap_cons, List.length_append, List.length_cons] at ih ⊢; rw [ih]; simp [cmC]; omega
theorem csC_app (x y : List Cm) : csC (x ++ y) = csC x ++ csC y := by simp [csC]
theorem csC_get : ∀ (l : List Cm) (i : Nat), i < l.length → (csC l)[i * 5]? = some (.int .i64 (l.getD i default).kd) ∧ (csC l)[i * 5 + 1]? = some (.int .i64 (l.getD i default).ss) ∧ (csC l)[i * 5 + 2]? = some (.int .i64 (l.getD i default).sq) ∧ (csC l)[i * 5 + 3]? = some (.string (l.getD i default).ky) ∧ (csC l)[i * 5 + 4]? = some (.string (l.getD i default).vl)
  | [], i, h => by simp at h
  | f :: r, 0, h => ⟨rfl, rfl, rfl, rfl, rfl⟩
  | f :: r, i + 1, h => by
    have ih := csC_get r i (by simpa using h)
    have e : csC (f :: r) = .int .i64 f.kd :: .int .i64 f.ss :: .int .i64 f.sq :: .string f.ky :: .string f.vl :: csC r := rfl
    rw [e, show (i + 1) * 5 = i * 5 + 1 + 1 + 1 + 1 + 1 by omega, show i * 5 + 1 + 1 + 1 + 1 + 1 + 1 = (i * 5 + 1) + 1 + 1 + 1 + 1 + 1 by omega, show i * 5 + 1 + 1 + 1 + 1 + 1 + 2 = (i * 5 + 2) + 1 + 1 + 1 + 1 + 1 by omega, show i * 5 + 1 + 1 + 1 + 1 + 1 + 3 = (i * 5 + 3) + 1 + 1 + 1 + 1 + 1 by omega, show i * 5 + 1 + 1 + 1 + 1 + 1 + 4 = (i * 5 + 4) + 1 + 1 + 1 + 1 + 1 by omega]
    simp only [List.getElem?_cons_succ, List.getD_cons_succ]
    exact ih
theorem csC_set : ∀ (l : List Cm) (k : Nat) (f : Cm), k < l.length → ((((((csC l).set (k * 5) (.int .i64 f.kd)).set (k * 5 + 1) (.int .i64 f.ss)).set (k * 5 + 2) (.int .i64 f.sq)).set (k * 5 + 3) (.string f.ky)).set (k * 5 + 4) (.string f.vl)) = csC (l.set k f)
  | [], k, f, h => by simp at h
  | g :: r, 0, f, h => rfl
  | g :: r, k + 1, f, h => by
    have ih := csC_set r k f (by simpa using h)
    have e : ∀ (g : Cm) (r : List Cm), csC (g :: r) = .int .i64 g.kd :: .int .i64 g.ss :: .int .i64 g.sq :: .string g.ky :: .string g.vl :: csC r := fun _ _ => rfl
    rw [List.set_cons_succ, e, e, ← ih, show (k + 1) * 5 = k * 5 + 1 + 1 + 1 + 1 + 1 by omega, show k * 5 + 1 + 1 + 1 + 1 + 1 + 1 = (k * 5 + 1) + 1 + 1 + 1 + 1 + 1 by omega, show k * 5 + 1 + 1 + 1 + 1 + 1 + 2 = (k * 5 + 2) + 1 + 1 + 1 + 1 + 1 by omega, show k * 5 + 1 + 1 + 1 + 1 + 1 + 3 = (k * 5 + 3) + 1 + 1 + 1 + 1 + 1 by omega, show k * 5 + 1 + 1 + 1 + 1 + 1 + 4 = (k * 5 + 4) + 1 + 1 + 1 + 1 + 1 by omega]
    simp only [List.set_cons_succ]
/-- The value is a slice of the call's own, from block B on, that holds these commands. -/
def OwnC (B : Nat) (w : World) (v : Value) (l : List Cm) : Prop := w.ownsRow B 150 5 v l.length (csC l)
theorem OwnC.cells {B : Nat} {w : World} {g cap n : Nat} {l : List Cm} (h : w.ownsRow B 150 5 (.slice (some ⟨g, 0, none⟩) n cap) n (csC l)) (i : Nat) (hi : i < l.length) (hn : n = l.length) :
    w.cell? ⟨g, i * 5, none⟩ = some (.int .i64 (l.getD i default).kd) ∧ w.cell? ⟨g, i * 5 + 1, none⟩ = some (.int .i64 (l.getD i default).ss) ∧ w.cell? ⟨g, i * 5 + 2, none⟩ = some (.int .i64 (l.getD i default).sq) ∧ w.cell? ⟨g, i * 5 + 3, none⟩ = some (.string (l.getD i default).ky) ∧ w.cell? ⟨g, i * 5 + 4, none⟩ = some (.string (l.getD i default).vl) := by
  obtain ⟨e0, e1, e2, e3, e4⟩ := csC_get l i hi
  exact ⟨(h.cellAt _ (by omega)).trans e0, (h.cellAt _ (by omega)).trans e1, (h.cellAt _ (by omega)).trans e2, (h.cellAt _ (by omega)).trans e3, (h.cellAt _ (by omega)).trans e4⟩
theorem OwnC.read {B : Nat} {w : World} {v : Value} {l : List Cm} (h : OwnC B w v l) : Css w v l := by
  rcases h.2 with ⟨rfl, h0⟩ | ⟨g, cap, cur, rfl, hb, hg, hn, hm, _⟩
  · obtain rfl := List.eq_nil_of_length_eq_zero h0
    exact ⟨none, 0, rfl, Nat.le_refl _, by unfold maxLen; omega, .inl rfl⟩
  · refine ⟨_, _, rfl, hn, hm, .inr ⟨g, 0, rfl, (Array.getElem?_eq_some_iff.1 hg).1, fun i hi => ?_⟩⟩
    have := OwnC.cells h i hi rfl
    simpa using this
theorem OwnC.kept {T : Nat → Prop} {B : Nat} {w w' : World} {v : Value} {l : List Cm} (h : OwnC B w v l) (ht : Touch T w w') (hn : ∀ k, v.ownBlock = some k → ¬ T k) : OwnC B w' v l := own_kept h ht hn
theorem OwnC.below {B : Nat} {w w' : World} {v : Value} {l : List Cm} (h : OwnC B w v l) (hb : Below w.heap.size w w') : OwnC B w' v l := h.kept (T := fun _ => False) (Touch.ofBelow hb) (fun _ _ h => h)
theorem OwnC.lt {B : Nat} {w : World} {v : Value} {l : List Cm} (h : OwnC B w v l) : ∀ k, v.ownBlock = some k → B ≤ k ∧ k < w.heap.size := World.ownsRow.lt h
theorem OwnC.down {B B' : Nat} {w : World} {v : Value} {l : List Cm} (h : OwnC B w v l) (hB : B' ≤ B) : OwnC B' w v l := by
  obtain ⟨hl, hc⟩ := h
  refine ⟨hl, ?_⟩
  rcases hc with h0 | ⟨g, cap, cur, hv, hg, rest⟩
  · exact .inl h0
  · exact .inr ⟨g, cap, cur, hv, by omega, rest⟩
theorem OwnC.nil (B : Nat) (w : World) : OwnC B w (.slice none 0 0) [] := World.ownsRow_nil w B 150 5
theorem infoCm : (Tryd.prog.info? 150).map (fun i => (i.zero, i.size, i.bytes)) = some (some (.agg #[.int .i64 0, .int .i64 0, .int .i64 0, .string ⟨#[]⟩, .string ⟨#[]⟩]), 5, 56) := by kernel_rfl
theorem wrapCm (n : Int) (h0 : 0 ≤ n) (h1 : n < 9223372036854775808) : IntKind.i64.wrap n = n := by
  simp only [IntKind.wrap, IntKind.bits, IntKind.signed]
  simp
  omega
def cmk (c j : Nat) : Cm := ⟨(c : Int) + 5 * (j : Int), (c : Int) + 5 * (j : Int) + 1, (c : Int) + 5 * (j : Int) + 1 + 1, mtx (c + 5 * j + 3), mtx (c + 5 * j + 4)⟩
def cmkTo (c : Nat) (l : List Cm) (k : Nat) : List Cm := (List.range l.length).map fun j => if j < k then cmk c j else l.getD j default
def cmks (c n : Nat) : List Cm := (List.range n).map fun j => cmk c j
theorem cmkTo_len (c : Nat) (l : List Cm) (k : Nat) : (cmkTo c l k).length = l.length := by simp [cmkTo]
theorem cmks_len (c n : Nat) : (cmks c n).length = n := by simp [cmks]
theorem cmks_get (c n j : Nat) (h : j < n) : (cmks c n).getD j default = cmk c j := by simp [cmks, List.getD_eq_getElem?_getD, h]
theorem cmkTo_zero (c : Nat) (l : List Cm) : cmkTo c l 0 = l := by
  apply List.ext_getElem?
  intro j
  by_cases hj : j < l.length
  · simp [cmkTo, hj, List.getD_eq_getElem?_getD]
  · simp [cmkTo, hj]
theorem cmkTo_all (c : Nat) (l : List Cm) : cmkTo c l l.length = cmks c l.length := by
  apply List.ext_getElem?
  intro j
  by_cases hj : j < l.length
  · simp [cmkTo, cmks, hj]
  · simp [cmkTo, cmks, hj]
theorem cmkTo_set (c : Nat) (l : List Cm) (k : Nat) (hk : k < l.length) : (cmkTo c l k).set k (cmk c k) = cmkTo c l (k + 1) := by
  apply List.ext_getElem?
  intro j
  rw [List.getElem?_set]
  simp only [cmkTo_len]
  by_cases e : k = j
  · subst e
    rw [if_pos rfl, if_pos hk]
    simp [cmkTo, hk]
  · rw [if_neg e]
    by_cases hj : j < l.length
    · by_cases h1 : j < k
      · simp [cmkTo, hj, h1, show j < k + 1 by omega]
      · simp [cmkTo, hj, h1, show ¬ j < k + 1 by omega]
    · simp [cmkTo, hj]
end Go.Proofs.YtgmaappilopgbaaDoor
namespace Go.Proofs.YtgmaappilopgbaaDoor.Sha
open Go.ChangeShapes Go.WideShapes Go.ChangeAt Go.RowKit
set_option linter.unusedVariables false
set_option linter.unusedSimpArgs false

/-- The commands that put what a map holds, in its order. -/
def Tr.cms (t : Tr) : List Cm := t.lvs.map fun p => ⟨1, 0, 0, p.1, p.2⟩
def cmsO : Option Tr → List Cm
  | none => []
  | some t => t.cms
def mlOut (b : Br) : List Cm × Int := match mapV b with
  | none => ([], 1)
  | some o => (cmsO o, 0)
theorem lvs_lvN : ∀ t : Tr, t.lvs.length = t.lvN
  | .leaf _ _ => rfl
  | .fork _ _ l r => by show (l.lvs ++ r.lvs).length = l.lvN + r.lvN; rw [List.length_append, lvs_lvN l, lvs_lvN r]
theorem cms_len (t : Tr) : t.cms.length = t.lvN := by rw [Tr.cms, List.length_map, lvs_lvN]
theorem cms_fork (a : Nat) (h : ByteArray) (l r : Tr) : (Tr.fork a h l r).cms = l.cms ++ r.cms := by show (l.lvs ++ r.lvs).map _ = _; rw [List.map_append]; rfl
theorem grownO {w5 w6 : World} {r : Option Nat} (hg : w5.grownBy w6 r) : Touch (fun q => r = some q) w5 w6 := (Touch.refl _ w5).grown hg (fun q hq _ => hq)
/-- A block of one command, as a slice. -/
theorem cm_rw (w : World) (f : Cm) (ty : TypeId) : Rw (w.alloc (.cells #[.int .i64 f.kd, .int .i64 f.ss, .int .i64 f.sq, .string f.ky, .string f.vl] ty)) (.slice (some ⟨w.heap.size, 0, none⟩) 1 1) 1 (cmC f) := by
  refine ⟨_, _, rfl, .inr ⟨_, rfl, fun j u hu => ?_⟩⟩
  have N := Blk.new w #[.int .i64 f.kd, .int .i64 f.ss, .int .i64 f.sq, .string f.ky, .string f.vl] ty w.heap.size rfl
  have hadd : (⟨w.heap.size, 0, none⟩ : Addr).add j = ⟨w.heap.size, j, none⟩ := by unfold Addr.add; split <;> simp_all
  rw [hadd]
  exact N.cell j hu
theorem own_push {B : Nat} {w : World} {v : Value} {l : List Cm} {f : Cm} (h : w.ownsRow B 150 5 v (l.length + 1) (csC l ++ cmC f)) : OwnC B w v (l ++ [f]) := by
  unfold OwnC
  rw [csC_app, List.length_append, show csC [f] = cmC f from rfl]
  exact h
/-- What l07List answers: the list, longer by the map's commands; what it has written. -/
def LiR (B : Nat) (ov : Value) (l : List Cm) (w : World) (e : Ending) (w' : World) : Prop := ∃ v, e = .returned v ∧ OwnC B w' v l ∧ Touch (fun q => ov.ownBlock = some q) w w' ∧ (∀ q, v.ownBlock = some q → ov.ownBlock = some q ∨ w.heap.size ≤ q)
set_option maxRecDepth 100000 in
set_option maxHeartbeats 4000000 in
theorem l07List_any : ∀ (t : Tr), TrOK t → ∀ (B : Nat) (S : Nat → Prop) (kv ov : Value) (l : List Cm) (w : World), (∀ q, S q → q < w.heap.size ∧ ov.ownBlock ≠ some q) → B ≤ w.heap.size → Brs S w kv t.toBr.kids → OwnC B w ov l → l.length + t.lvN ≤ 1000 →
    Calls Tryd.prog 101 #[.agg #[.string t.toBr.key, .string t.toBr.val, .int .i64 t.toBr.at_, kv], ov] w fun e w' => LiR B ov (l ++ t.cms) w e w' := by
  intro t
  induction t with
  | leaf k v =>
    intro hok B S kv ov l w hSo hBw hB hO hsz
    obtain ⟨sa, cap, rfl, _, hcm⟩ := hB.shape
    have HNE := not_empty hok
    have hk := (okK_iff.1 hok.1).2
    have hv : v.size ≤ 60 := hok.2
    have hsz2 : l.length + 1 ≤ 1000 := hsz
    dsimp only [Tr.toBr, Br.key, Br.val, Br.at_, Br.kids] at HNE ⊢
    have B0 := hide ((Below.refl w.heap.size w).alloc (Nat.le_refl _) (.cells #[.string k, .string v, .int .i64 256, .slice sa 0 cap] 28))
    have X0 := hide (Blk.new w #[.string k, .string v, .int .i64 256, .slice sa 0 cap] 28 w.heap.size rfl)
    have HE := hide (fun wx => l07Empty_any k v 256 [] sa cap wx (by simp))
    have HLF := hide (fun wx => l07Leaf_any k v 256 sa 0 cap wx (by omega))
    rw [HNE] at HE
    simp only [List.length_nil] at HE
    rw [show decide (0 = 0) = true from rfl] at HLF
    have HO := hide hO
    have HLO := hide (hO.lt)
    have HV : Hid ((Tr.leaf k v).cms = [⟨1, 0, 0, k, v⟩]) := rfl
    generalize (Tr.leaf k v).cms = D at *
    clear hB hok HNE hO hSo hsz
    obtain ⟨i0, hi, hz0, hz1, hz2⟩ := info_parts infoCm
    go_enter Tryd.func101, Tryd.ntmps101
    go_wp2_with fail
    generalize w.alloc (.cells #[.string k, .string v, .int .i64 256, .slice sa 0 cap] 28) = w1 at *
    refine (unhide HE w1).mono ?_
    rintro e w2 ⟨rfl, hb2⟩
    have B2 := hide ((unhide B0).trans (hb2.mono (unhide B0).size))
    have X2 := hide ((unhide X0).below hb2)
    clear hb2
    have x0 := (unhide X2).cell 0 rfl
    have x1 := (unhide X2).cell 1 rfl
    have x2 := (unhide X2).cell 2 rfl
    have x3 := (unhide X2).cell 3 rfl
    go_wp2_with fail
    refine (unhide HLF w2).mono ?_
    rintro e w3 ⟨rfl, hb3⟩
    have B3 := hide ((unhide B2).trans (hb3.mono (unhide B2).size))
    have X3 := hide ((unhide X2).below hb3)
    clear hb3 x0 x1 x2 x3 HE HLF X2 B2 X0 B0
    have x0 := (unhide X3).cell 0 rfl
    have x1 := (unhide X3).cell 1 rfl
    have BA := (Below.refl w3.heap.size w3).alloc (Nat.le_refl _) (.cells #[.int .i64 1, .int .i64 0, .int .i64 0, .string k, .string v] 150)
    have B4 := hide ((unhide B3).trans (BA.mono (unhide B3).size))
    have O4 : Hid ((w3.alloc (.cells #[.int .i64 1, .int .i64 0, .int .i64 0, .string k, .string v] 150)).ownsRow B 150 5 ov l.length (csC l)) := hide ((unhide HO).below (unhide B4))
    have HRW := hide (cm_rw w3 ⟨1, 0, 0, k, v⟩ 150)
    have H1C : Hid (∀ u ∈ cmC ⟨1, 0, 0, k, v⟩, u.oneCell' = true) := hide (by simp [cmC, Value.oneCell'])
    have hBs : B ≤ (w3.alloc (.cells #[.int .i64 1, .int .i64 0, .int .i64 0, .string k, .string v] 150)).heap.size := by have := (unhide B4).size; omega
    clear BA
    go_wp2_with (at_builtin; refine wpList_append_row _ rfl _ _ _ rfl B 150 i0 _ 5 56 Tryd.underlying147 hi hz0 hz1 hz2 rfl (by omega) _ l.length (csC l) rfl (unhide O4) _ 1 (cmC ⟨1, 0, 0, k, v⟩) rfl (unhide HRW) rfl (unhide H1C) (by unfold maxLen; omega) (by omega) hBs ?_; intro a6 c6 w6 hown6 hgrow6 hat6; have R6 := hide (And.intro hown6 (And.intro hgrow6 hat6)); clear hown6 hgrow6 hat6)
    go_ret
    obtain ⟨hown6, hgrow6, hat6⟩ := unhide R6
    refine ⟨_, rfl, by rw [unhide HV]; exact own_push hown6, (Touch.ofBelow (unhide B4)).trans (grownO hgrow6) (fun _ _ h => h), fun q hq => ?_⟩
    rcases hat6 with h | h
    · exact .inl (h.symm.trans hq)
    · have h2 := h.symm.trans hq
      have h3 := (unhide B4).size
      cases h2
      exact .inr h3
  | fork a hh lt rt ihl ihr =>
    intro hok B S kv ov l w hSo hBw hB hO hsz
    obtain ⟨sa, cap, rfl, _, hcm⟩ := hB.shape
    have HNE := not_empty hok
    obtain ⟨ha, _, okl, okr⟩ := hok
    dsimp only [Tr.toBr, Br.key, Br.val, Br.at_, Br.kids] at HNE hB ⊢
    have B0 := hide ((Below.refl w.heap.size w).alloc (Nat.le_refl _) (.cells #[.string ⟨#[]⟩, .string ⟨#[]⟩, .int .i64 a, .slice sa 2 cap] 28))
    have X0 := hide (Blk.new w #[.string ⟨#[]⟩, .string ⟨#[]⟩, .int .i64 a, .slice sa 2 cap] 28 w.heap.size rfl)
    have HE := hide (fun wx => l07Empty_any ⟨#[]⟩ ⟨#[]⟩ a [lt.toBr, rt.toBr] sa cap wx (by unfold maxLen; simp))
    have HLF := hide (fun wx => l07Leaf_any ⟨#[]⟩ ⟨#[]⟩ a sa 2 cap wx (by unfold maxLen; omega))
    rw [HNE] at HE
    rw [show decide (2 = 0) = false from rfl] at HLF
    obtain ⟨bb, off, kvf, rfl, _, hat⟩ := hB.at (by simp)
    have hbb := hat.lt
    have hbS : S bb := hat.here
    obtain ⟨s00, s01, s02, s03⟩ := hat.cells 0 (by simp)
    obtain ⟨s10, s11, s12, s13⟩ := hat.cells 1 (by simp)
    have K0 := hide (hat.kids 0 (by simp))
    have K1 := hide (hat.kids 1 (by simp))
    simp only [List.getD_cons_zero, List.getD_cons_succ, Nat.zero_mul, Nat.add_zero, Nat.one_mul] at s00 s01 s02 s03 s10 s11 s12 s13 K0 K1
    obtain ⟨ka0, kc0, hkv0, _, _⟩ := (unhide K0).shape
    obtain ⟨ka1, kc1, hkv1, _, _⟩ := (unhide K1).shape
    rw [hkv0] at K0 s03
    rw [hkv1] at K1 s13
    have hcl := cms_len lt
    have hz2 : l.length + (lt.lvN + rt.lvN) ≤ 1000 := hsz
    have hbo := (hSo bb hbS).2
    have HO := hide hO
    have HL := hide (fun wx (hx : Below w.heap.size w wx) => ihl okl B S _ ov l wx (fun q hq => ⟨Nat.lt_of_lt_of_le (hSo q hq).1 hx.size, (hSo q hq).2⟩) (Nat.le_trans hBw hx.size) ((unhide K0).blw hx) (hO.below hx) (by omega))
    have HR := hide (fun wx v1 (hx : Touch (fun q => ov.ownBlock = some q) w wx) (h1 : OwnC B wx v1 (l ++ lt.cms)) (h2 : ∀ q, v1.ownBlock = some q → ov.ownBlock = some q ∨ w.heap.size ≤ q) => ihr okr B S _ v1 (l ++ lt.cms) wx (fun q hq => ⟨Nat.lt_of_lt_of_le (hSo q hq).1 hx.size, fun e => (h2 q e).elim (hSo q hq).2 (fun h => by have := (hSo q hq).1; omega)⟩) (Nat.le_trans hBw hx.size) ((unhide K1).touch hx (fun q hq => (hSo q hq).2)) h1 (by rw [List.length_append, hcl]; omega))
    have HV : Hid (l ++ (Tr.fork a hh lt rt).cms = (l ++ lt.cms) ++ rt.cms) := hide (by rw [cms_fork, List.append_assoc])
    have HLO := hide (hO.lt)
    clear hB hat hkv0 hkv1 K0 K1 ihl ihr HNE hO hSo hz2 hcl hsz
    generalize (Tr.fork a hh lt rt).cms = D at *
    generalize lt.toBr = b0 at *
    generalize rt.toBr = b1 at *
    generalize lt.cms = dl at *
    generalize rt.cms = dr at *
    simp only [List.length_cons, List.length_nil] at HE
    go_enter Tryd.func101, Tryd.ntmps101
    go_wp2_with fail
    generalize w.alloc (.cells #[.string ⟨#[]⟩, .string ⟨#[]⟩, .int .i64 a, .slice (some ⟨bb, off, none⟩) 2 cap] 28) = w1 at *
    refine (unhide HE w1).mono ?_
    rintro e w2 ⟨rfl, hb2⟩
    have B2 := hide ((unhide B0).trans (hb2.mono (unhide B0).size))
    have X2 := hide ((unhide X0).below hb2)
    clear hb2
    have x0 := (unhide X2).cell 0 rfl
    have x1 := (unhide X2).cell 1 rfl
    have x2 := (unhide X2).cell 2 rfl
    have x3 := (unhide X2).cell 3 rfl
    go_wp2_with fail
    refine (unhide HLF w2).mono ?_
    rintro e w3 ⟨rfl, hb3⟩
    have B3 := hide ((unhide B2).trans (hb3.mono (unhide B2).size))
    have X3 := hide ((unhide X2).below hb3)
    clear hb3 x0 x1 x2 x3
    have hX := (unhide X3).1
    have hw3 := (unhide B3).size
    have hXo : ov.ownBlock ≠ some w.heap.size := fun e => by have := (unhide HLO _ e).2; omega
    have HSX : Hid (∀ wx, Touch (fun q => ov.ownBlock = some q) w3 wx → wx.cell? ⟨w.heap.size, 3, none⟩ = some (.slice (some ⟨bb, off, none⟩) 2 cap) ∧ wx.cell? ⟨bb, off, none⟩ = some (.string b0.key) ∧ wx.cell? ⟨bb, off + 1, none⟩ = some (.string b0.val) ∧ wx.cell? ⟨bb, off + 2, none⟩ = some (.int .i64 b0.at_) ∧ wx.cell? ⟨bb, off + 3, none⟩ = some (.slice ka0 b0.kids.length kc0) ∧ wx.cell? ⟨bb, off + 4, none⟩ = some (.string b1.key) ∧ wx.cell? ⟨bb, off + 4 + 1, none⟩ = some (.string b1.val) ∧ wx.cell? ⟨bb, off + 4 + 2, none⟩ = some (.int .i64 b1.at_) ∧ wx.cell? ⟨bb, off + 4 + 3, none⟩ = some (.slice ka1 b1.kids.length kc1)) := hide (fun wx ht => by
      have hb' := (Touch.ofBelow (T := fun q => ov.ownBlock = some q) (unhide B3)).trans ht (fun _ _ h => h)
      have X := (unhide X3).kept ht hXo
      exact ⟨X.cell 3 rfl, (hb'.cell (p := ⟨bb, off, none⟩) hbb hbo).trans s00, (hb'.cell (p := ⟨bb, off + 1, none⟩) hbb hbo).trans s01, (hb'.cell (p := ⟨bb, off + 2, none⟩) hbb hbo).trans s02, (hb'.cell (p := ⟨bb, off + 3, none⟩) hbb hbo).trans s03, (hb'.cell (p := ⟨bb, off + 4, none⟩) hbb hbo).trans s10, (hb'.cell (p := ⟨bb, off + 4 + 1, none⟩) hbb hbo).trans s11, (hb'.cell (p := ⟨bb, off + 4 + 2, none⟩) hbb hbo).trans s12, (hb'.cell (p := ⟨bb, off + 4 + 3, none⟩) hbb hbo).trans s13⟩)
    obtain ⟨y3, t00, t01, t02, t03, t10, t11, t12, t13⟩ := unhide HSX w3 (Touch.refl _ _)
    have T3 := hide (Touch.ofBelow (T := fun q => ov.ownBlock = some q) (unhide B3))
    have HL3 := hide (unhide HL w3.drew (below_drewN (unhide B3) 1))
    have HR3 := hide (fun w4 v1 (h0 : Touch (fun q => ov.ownBlock = some q) w3 w4) (h1 : OwnC B w4 v1 (l ++ dl)) (h2 : ∀ q, v1.ownBlock = some q → ov.ownBlock = some q ∨ w3.heap.size ≤ q) => unhide HR w4 v1 ((unhide T3).trans h0 (fun _ _ h => h)) h1 (fun q hq => (h2 q hq).imp id (fun h => Nat.le_trans hw3 h)))
    have HEND : Hid (∀ (w4 : World) (v1 : Value) (w5 : World) (v2 : Value), Touch (fun q => ov.ownBlock = some q) w3 w4 → (∀ q, v1.ownBlock = some q → ov.ownBlock = some q ∨ w3.heap.size ≤ q) → Touch (fun q => v1.ownBlock = some q) w4 w5 → (∀ q, v2.ownBlock = some q → v1.ownBlock = some q ∨ w4.heap.size ≤ q) → OwnC B w5 v2 ((l ++ dl) ++ dr) → LiR B ov (l ++ D) w (.returned v2) w5) := hide (fun w4 v1 w5 v2 h1 h2 h3 h4 h5 => by
      refine ⟨v2, rfl, by rw [unhide HV]; exact h5, ((unhide T3).trans h1 (fun _ _ h => h)).trans h3 (fun q hq h => (h2 q h).elim id (fun h' => by omega)), fun q hq => ?_⟩
      rcases h4 q hq with h | h
      · rcases h2 q h with h' | h'
        · exact .inl h'
        · exact .inr (Nat.le_trans hw3 h')
      · exact .inr (Nat.le_trans (Nat.le_trans hw3 h1.size) h))
    have HMV := hide (fun (w4 : World) (v1 : Value) (w5 : World) (h1 : Touch (fun q => ov.ownBlock = some q) w3 w4) (h2 : ∀ q, v1.ownBlock = some q → ov.ownBlock = some q ∨ w3.heap.size ≤ q) (h3 : Touch (fun q => v1.ownBlock = some q) w4 w5) => h1.trans h3 (fun q hq h => (h2 q h).elim id (fun h' => by omega)))
    clear s00 s01 s02 s03 s10 s11 s12 s13 HL HR HE HLF X2 B2 X0 B0
    go_wp2_with fail
    go_region_held3 (fun wx => wx.cell? ⟨w.heap.size, 3, none⟩ = some (.slice (some ⟨bb, off, none⟩) 2 cap) ∧ wx.cell? ⟨bb, off, none⟩ = some (.string b0.key) ∧ wx.cell? ⟨bb, off + 1, none⟩ = some (.string b0.val) ∧ wx.cell? ⟨bb, off + 2, none⟩ = some (.int .i64 b0.at_) ∧ wx.cell? ⟨bb, off + 3, none⟩ = some (.slice ka0 b0.kids.length kc0) ∧ wx.cell? ⟨bb, off + 4, none⟩ = some (.string b1.key) ∧ wx.cell? ⟨bb, off + 4 + 1, none⟩ = some (.string b1.val) ∧ wx.cell? ⟨bb, off + 4 + 2, none⟩ = some (.int .i64 b1.at_) ∧ wx.cell? ⟨bb, off + 4 + 3, none⟩ = some (.slice ka1 b1.kids.length kc1)) (first | go_keep | exact unhide HSX _ hc2 | exact unhide HSX _ hc1) (first
      | (go_at_call 101; refine (unhide HR3 _ _ hc1 hO4 hk4).mono ?_; rintro e w5 ⟨v2, rfl, hO5, hT5, hk5⟩; have hc2 := unhide HMV _ _ _ hc1 hk4 hT5)
      | (go_at_call 101; refine (unhide HL3).mono ?_; rintro e w4 ⟨v1, rfl, hO4, hT4, hk4⟩; have hc1 : Touch (fun q => ov.ownBlock = some q) w3 w4 := (Touch.refl _ w3).drew.trans hT4 (fun _ _ h => h)))
    have K := hide (unhide HEND _ _ _ _ hc1 hk4 hT5 hk5 hO5)
    clear hO4 hO5 hT4 hT5 hk4 hk5 hc1 hc2 y3 t00 t01 t02 t03 t10 t11 t12 t13
    go_wp2_with fail
    go_ret
    exact unhide K
theorem l07ListN_any (B : Nat) (ov : Value) (w : World) (hO : OwnC B w ov []) (sa : Option Addr) (cap : Nat) :
    Calls Tryd.prog 101 #[.agg #[.string ⟨#[]⟩, .string ⟨#[]⟩, .int .i64 0, .slice sa 0 cap], ov] w fun e w' => LiR B ov [] w e w' := by
  have B0 := hide ((Below.refl w.heap.size w).alloc (Nat.le_refl _) (.cells #[.string ⟨#[]⟩, .string ⟨#[]⟩, .int .i64 0, .slice sa 0 cap] 28))
  have HE := hide (fun wx => l07Empty_any ⟨#[]⟩ ⟨#[]⟩ 0 [] sa cap wx (by simp))
  rw [show emptyBr (.mk ⟨#[]⟩ ⟨#[]⟩ 0 []) = true from rfl] at HE
  simp only [List.length_nil] at HE
  have HO := hide hO
  clear hO
  go_enter Tryd.func101, Tryd.ntmps101
  go_wp2_with fail
  generalize w.alloc (.cells #[.string ⟨#[]⟩, .string ⟨#[]⟩, .int .i64 0, .slice sa 0 cap] 28) = w1 at *
  refine (unhide HE w1).mono ?_
  rintro e w2 ⟨rfl, hb2⟩
  have B2 := hide ((unhide B0).trans (hb2.mono (unhide B0).size))
  clear hb2
  go_wp2_with fail
  go_ret
  exact ⟨_, rfl, (unhide HO).below (unhide B2), Touch.ofBelow (unhide B2), fun q hq => .inl hq⟩
theorem cap_le (o : Option Tr) (h : SepO o) : (cmsO o).length ≤ 40 := by
  cases o with
  | none => show 0 ≤ 40; omega
  | some t => show t.cms.length ≤ 40; rw [cms_len]; exact h.2
theorem ml_len (b : Br) : (mlOut b).1.length ≤ 40 := by
  unfold mlOut
  cases h : mapV b with
  | none => show 0 ≤ 40; omega
  | some o => exact cap_le o (mapV_sep h)
end Go.Proofs.YtgmaappilopgbaaDoor.Sha
namespace Go.Proofs.YtgmaappilopgbaaDoor
open Go.ChangeShapes Go.WideShapes Go.ChangeAt Go.RowKit
set_option linter.unusedVariables false

theorem wrapU (n : Int) : IntKind.u8.wrap n = n % 256 := by simp [IntKind.wrap, IntKind.bits, IntKind.signed]
theorem l02Two_any (n : Int) (w : World) (h0 : 0 ≤ n) (h1 : n < 4294967296) :
    Calls Tryd.prog 102 #[.int .i64 n] w fun e w' => e = .returned (.slice (some ⟨w.heap.size, 0, none⟩) 2 2) ∧ w' = w.alloc (.cells #[.int .u8 (n / 256 % 256), .int .u8 (n % 256)] 5) := by
  have m1 := wrapU (n / 256)
  have m2 := wrapU n
  go_enter Tryd.func102, Tryd.ntmps102
  go_wp2_with fail
  go_ret
  exact ⟨rfl, rfl⟩
end Go.Proofs.YtgmaappilopgbaaDoor
namespace Go.Proofs.YtgmaappilopgbaaDoor.Sha
open Go.ChangeShapes Go.WideShapes Go.ChangeAt Go.RowKit
set_option linter.unusedVariables false
set_option linter.unusedSimpArgs false

theorem ob_str {B g cap : Nat} {w w2 : World} {v : Value} {l : List Int} {s : ByteArray} (hl : OwnB B w v l) (h : w2.ownsRow B 5 1 (.slice (some ⟨g, 0, none⟩) (l.length + s.size) cap) (l.length + s.size) (l.map (Value.int .u8) ++ Lib.strCells s)) : OwnB B w2 (.slice (some ⟨g, 0, none⟩) (l.length + s.size) cap) (l ++ bytesI s) := by
  have e : l.map (Value.int .u8) ++ Lib.strCells s = (l ++ bytesI s).map (Value.int .u8) := by rw [strCells_eq]; simp
  have hn : (l ++ bytesI s).length = l.length + s.size := by rw [List.length_append, bytesI_len]
  rw [e] at h
  refine ⟨by rw [hn]; exact h, range_append hl.2 (bytesI_range s)⟩
theorem encN_one {n : Int} (h0 : 0 ≤ n) (h1 : n ≤ 255) : encN n 1 = [n] := by simp [encN]; omega
theorem encN_two (n : Int) : encN n 2 = [n / 256 % 256, n % 256] := by simp [encN]
theorem own_textL {B n1 n2 : Nat} {w w1 w2 : World} {v v1 v2 : Value} {l : List Int} {s : ByteArray} (hl : OwnB B w v l) (h1 : w1.ownsRow B 5 1 v1 n1 (l.map (Value.int .u8) ++ [Value.int .u8 (s.size : Int)])) (hs : s.size ≤ 255)
    (h2 : w2.ownsRow B 5 1 v2 n2 ((l.map (Value.int .u8) ++ [Value.int .u8 (s.size : Int)]) ++ Lib.strCells s)) : OwnB B w2 v2 (l ++ textsL [s]) := by
  have e : (l.map (Value.int .u8) ++ [Value.int .u8 (s.size : Int)]) ++ Lib.strCells s = (l ++ textsL [s]).map (Value.int .u8) := by
    rw [strCells_eq]; simp [textsL]
  rw [e] at h2
  have hn : (l ++ textsL [s]).length = n2 := by have := h2.1; simpa using this
  subst hn
  refine ⟨h2, range_append hl.2 (fun i => ?_)⟩
  cases i with
  | zero => simp [textsL]; omega
  | succ i => simpa [textsL] using bytesI_range s i
theorem lvs_ok : ∀ t : Tr, TrOK t → ∀ y ∈ t.lvs, y.1.size ≤ 24 ∧ y.2.size ≤ 60
  | .leaf k v, h, y, hy => by
    have e : y = (k, v) := by simpa [Tr.lvs] using hy
    subst e
    exact ⟨(okK_iff.1 h.1).2, h.2⟩
  | .fork a hh l r, h, y, hy => by
    simp only [Tr.lvs, List.mem_append] at hy
    rcases hy with hy | hy
    · exact lvs_ok l h.2.2.1 y hy
    · exact lvs_ok r h.2.2.2 y hy
theorem lvsO_ok (o : Option Tr) (h : OkO o) : ∀ y ∈ lvsO o, y.1.size ≤ 24 ∧ y.2.size ≤ 60 := by
  cases o with
  | none => intro y hy; simp [lvsO] at hy
  | some t => exact lvs_ok t h
theorem own_row3 {B n : Nat} {w : World} {v : Value} {l : List Int} (h : OwnB B w v l) (hn : l.length = n) : w.ownsRow B 5 1 v n (l.map (Value.int .u8)) := by subst hn; exact h.1
theorem ob_strN {B g cap n : Nat} {w w2 : World} {v : Value} {l : List Int} {s : ByteArray} (hl : OwnB B w v l) (h : w2.ownsRow B 5 1 (.slice (some ⟨g, 0, none⟩) (n + s.size) cap) (n + s.size) (l.map (Value.int .u8) ++ Lib.strCells s)) : OwnB B w2 (.slice (some ⟨g, 0, none⟩) (n + s.size) cap) (l ++ bytesI s) := by
  have e : l.map (Value.int .u8) ++ Lib.strCells s = (l ++ bytesI s).map (Value.int .u8) := by rw [strCells_eq]; simp
  rw [e] at h
  have hn : (l ++ bytesI s).length = n + s.size := by have := h.1; simpa using this
  refine ⟨by rw [hn]; exact h, range_append hl.2 (bytesI_range s)⟩
theorem two_range (n : Int) : ∀ i, 0 ≤ [n / 256 % 256, n % 256].getD i 0 ∧ [n / 256 % 256, n % 256].getD i 0 ≤ 255 := fun i => by
  match i with
  | 0 => simp; omega
  | 1 => simp; omega
  | i + 2 => simp
theorem three_range {a b c : Int} (h0 : 0 ≤ a) (h1 : a ≤ 255) (h2 : 0 ≤ b) (h3 : b ≤ 255) (h : 0 ≤ c ∧ c ≤ 255) : ∀ i, 0 ≤ [a, b, c].getD i 0 ∧ [a, b, c].getD i 0 ≤ 255 := fun i => by
  match i with
  | 0 => simp; omega
  | 1 => simp; omega
  | 2 => simp; omega
  | i + 3 => simp
theorem ob_news {B g cap m : Nat} {w w2 : World} {v : Value} {l ys : List Int} (hl : OwnB B w v l) (hm : ys.length = m) (hy : ∀ i, 0 ≤ ys.getD i 0 ∧ ys.getD i 0 ≤ 255) (h : w2.ownsRow B 5 1 (.slice (some ⟨g, 0, none⟩) (l.length + m) cap) (l.length + m) (l.map (Value.int .u8) ++ ys.map (Value.int .u8))) : OwnB B w2 (.slice (some ⟨g, 0, none⟩) (l.length + m) cap) (l ++ ys) := by
  have hn : (l ++ ys).length = l.length + m := by rw [List.length_append, hm]
  rw [← List.map_append] at h
  exact ⟨by rw [hn]; exact h, range_append hl.2 hy⟩
set_option maxRecDepth 100000 in
theorem l07ListO_any (o : Option Tr) (hok : OkO o) (h40 : lvO o ≤ 40) (B : Nat) (S : Nat → Prop) (ka : Option Addr) (kc : Nat) (ov : Value) (w : World) (hSo : ∀ q, S q → q < w.heap.size ∧ ov.ownBlock ≠ some q) (hBw : B ≤ w.heap.size) (hB : Brs S w (.slice ka (brOf o).kids.length kc) (brOf o).kids) (hO : OwnC B w ov []) :
    Calls Tryd.prog 101 #[.agg #[.string (brOf o).key, .string (brOf o).val, .int .i64 (brOf o).at_, .slice ka (brOf o).kids.length kc], ov] w fun e w' => LiR B ov (cmsO o) w e w' := by
  cases o with
  | none => exact l07ListN_any B ov w hO ka kc
  | some t =>
    have := l07List_any t hok B S _ ov [] w hSo hBw hB hO (by have : t.lvN ≤ 40 := h40; simp; omega)
    rw [List.nil_append] at this
    exact this
theorem cms_kv (o : Option Tr) : (cmsO o).map (fun f => (f.ky, f.vl)) = lvsO o := by
  cases o with
  | none => rfl
  | some t => show (t.lvs.map _).map _ = t.lvs; rw [List.map_map]; simp [Function.comp_def]
set_option maxRecDepth 100000 in
set_option maxHeartbeats 4000000 in
theorem l09Snapshot_any (ls : List ByteArray) (o : Option Tr) (ss : List Se) (g gc : Nat) (ka : Option Addr) (kc : Nat) (sa : Option Addr) (sc : Nat) (w : World) (hS : SA w g 0 gc ls) (hK : Brs (fun _ => True) w (.slice ka (brOf o).kids.length kc) (brOf o).kids) (hZ : Sess w (.slice sa ss.length sc) ss) (h50 : ls.length ≤ 50) (hall : AllH ls) (hok : OkO o) (h40 : lvO o ≤ 40) (hses : sesB ss = true) :
    Calls Tryd.prog 61 #[.agg #[.slice (some ⟨g, 0, none⟩) ls.length gc, .string (brOf o).key, .string (brOf o).val, .int .i64 (brOf o).at_, .slice ka (brOf o).kids.length kc, .slice sa ss.length sc]] w fun e w' => ∃ v', e = .returned v' ∧ OwnB w.heap.size w' v' (snapL ls o ss) ∧ Below w.heap.size w w' := by
  obtain ⟨i0, hi, hz0, hz1, hz2⟩ := info_parts info5
  have B0 := hide ((Below.refl w.heap.size w).alloc (Nat.le_refl _) (.cells #[.slice (some ⟨g, 0, none⟩) ls.length gc, .string (brOf o).key, .string (brOf o).val, .int .i64 (brOf o).at_, .slice ka (brOf o).kids.length kc, .slice sa ss.length sc] 43))
  have X0 := hide (Blk.new w #[.slice (some ⟨g, 0, none⟩) ls.length gc, .string (brOf o).key, .string (brOf o).val, .int .i64 (brOf o).at_, .slice ka (brOf o).kids.length kc, .slice sa ss.length sc] 43 w.heap.size rfl)
  have HSA := hide hS
  have HKK := hide hK
  have HZZ := hide hZ
  have HAL := hide hall
  have HOK := hide hok
  have HSB := hide (sesB_all hses)
  have hss8 := (unhide HSB).1
  have HLN := hide (lvsL_len hall)
  have m1 : IntKind.u8.wrap (ls.length : Int) = (ls.length : Int) := by rw [wrapU]; omega
  have m2 : IntKind.u8.wrap (lvO o : Int) = (lvO o : Int) := by rw [wrapU]; omega
  have m3 : IntKind.u8.wrap (ss.length : Int) = (ss.length : Int) := by rw [wrapU]; omega
  have HKB := hide hK.bound
  have HLI := hide (fun B S ov wx hSo hBw hB hO => l07ListO_any o hok h40 B S ka kc ov wx hSo hBw hB hO)
  clear hS hK hZ hall hok hses
  generalize (brOf o).key = bk at *
  generalize (brOf o).val = bv at *
  generalize (brOf o).at_ = ba at *
  generalize hbn : (brOf o).kids.length = bn at *
  have HBN := hide hbn
  clear hbn
  go_enter Tryd.func61, Tryd.ntmps61
  go_wp2_with fail
  have O1 : Hid (OwnB (w.heap.size + 1) ((w.alloc (.cells #[.slice (some ⟨g, 0, none⟩) ls.length gc, .string bk, .string bv, .int .i64 ba, .slice ka bn kc, .slice sa ss.length sc] 43)).alloc (.cells #[.int .u8 ls.length] 5)) (.slice (some ⟨w.heap.size + 1, 0, none⟩) 1 1) (encN ls.length 1)) := hide (by rw [encN_one (by omega) (by omega)]; exact ⟨own_lit (X := w.heap.size + 1) (n := 1) (cs := #[.int .u8 ls.length]) (heap_new (by rw [World.size_alloc])) (Nat.le_refl _) rfl (by unfold maxLen; omega), one_range (by omega) (by omega)⟩)
  have B1 := hide (((Below.refl (w.heap.size + 1) (w.alloc (.cells #[.slice (some ⟨g, 0, none⟩) ls.length gc, .string bk, .string bv, .int .i64 ba, .slice ka bn kc, .slice sa ss.length sc] 43))).alloc (by simp) (.cells #[.int .u8 ls.length] 5)))
  generalize (w.alloc (.cells #[.slice (some ⟨g, 0, none⟩) ls.length gc, .string bk, .string bv, .int .i64 ba, .slice ka bn kc, .slice sa ss.length sc] 43)).alloc (.cells #[.int .u8 ls.length] 5) = w1 at *
  generalize w.alloc (.cells #[.slice (some ⟨g, 0, none⟩) ls.length gc, .string bk, .string bv, .int .i64 ba, .slice ka bn kc, .slice sa ss.length sc] 43) = w0 at *
  have hX0 : w.heap.size < w.heap.size + 1 := by omega
  have hw0s := (unhide X0).1
  go_loopw [3, 4] (fun ov i wr => ∃ (k : Nat), k ≤ ls.length ∧ i = .int .i64 k ∧ OwnB (w.heap.size + 1) wr ov (encN ls.length 1 ++ lvsL (ls.take k)) ∧ Below (w.heap.size + 1) w0 wr) (fun _ i _ => ls.length - (intOf i).toNat)
  case atStart => exact ⟨0, Nat.zero_le _, rfl, by simpa [lvsL] using unhide O1, unhide B1⟩
  case round =>
    obtain ⟨k, hk, rfl, hO, hb⟩ := hrel
    rename_i ov
    clear O1 B1
    have HO := hide hO
    have HB := hide hb
    have x0 := (hb.cell (p := ⟨w.heap.size, 0, none⟩) hX0).trans ((unhide X0).cell 0 rfl)
    have hBW := hide ((unhide B0).trans (hb.mono (by omega)))
    have hzr := hb.size
    by_cases hlt : k < ls.length
    · have cs := ((unhide HSA).below (unhide hBW)).cell k hlt
      have hs32 := unhide HAL k hlt
      have hk0 : (0 : Int) ≤ (k : Int) := by omega
      have hk1 : (k : Int) < (ls.length : Int) := by omega
      have HTN := hide (take_next ls k ByteArray.empty hlt)
      have HXL := hide (show (encN ls.length 1 ++ lvsL (ls.take k)).length ≤ 1700 by
        rw [List.length_append, encN_len, lvsL_len ((unhide HAL).take k), List.length_take]; omega)
      rw [Nat.zero_add] at cs
      generalize ls.getD k ByteArray.empty = s at *
      generalize hxs : encN ls.length 1 ++ lvsL (ls.take k) = xs at *
      have HXS : Hid (xs ++ bytesI s = encN ls.length 1 ++ lvsL (ls.take (k + 1))) := hide (by rw [unhide HTN, lvsL_app, ← List.append_assoc, hxs]; simp [lvsL])
      clear hO hb hxs
      go_wp2_with (at_builtin; refine wpList_append_str _ rfl _ _ _ _ rfl (w.heap.size + 1) 5 i0 Tryd.underlying49 Tryd.underlying9 hi hz0 hz1 hz2 _ xs.length _ rfl (unhide HO).1 s rfl (by omega) (by have := unhide HXL; omega) (by omega) ?_; intro g2 cap2 w2 hown2 hgrow2 hat2; have O2 := hide (ob_str (unhide HO) hown2); have B2 := hide ((unhide HB).grown hgrow2 (by omega) (fun r hr => ((unhide HO).1.lt r hr).1)); clear hown2 hgrow2 hat2)
      refine ⟨⟨k + 1, by omega, by go_num, ?_, unhide B2⟩, ?_⟩
      · rw [← unhide HXS]; have h9 := unhide O2; rw [hs32] at h9; first | exact h9 | exact unhide O2
      · simp [intOf]; omega
    · obtain rfl : k = ls.length := by omega
      rw [List.take_length] at hO
      have O3 := hide hO
      have HX3 := hide (show (encN ls.length 1 ++ lvsL ls).length = 1 + 32 * ls.length by rw [List.length_append, encN_len, unhide HLN])
      generalize hxs : encN ls.length 1 ++ lvsL ls = xs3 at *
      have x1 := (hb.cell (p := ⟨w.heap.size, 1, none⟩) hX0).trans ((unhide X0).cell 1 rfl)
      have x2 := (hb.cell (p := ⟨w.heap.size, 2, none⟩) hX0).trans ((unhide X0).cell 2 rfl)
      have x3 := (hb.cell (p := ⟨w.heap.size, 3, none⟩) hX0).trans ((unhide X0).cell 3 rfl)
      have x4 := (hb.cell (p := ⟨w.heap.size, 4, none⟩) hX0).trans ((unhide X0).cell 4 rfl)
      have HXE := hide hxs
      clear hO hb HO hxs
      go_wp2_with fail
      have BA := (Below.refl wr.heap.size wr).alloc (Nat.le_refl _) (.cells #[] 150)
      have hOC0 : OwnC (w.heap.size + 1) (wr.alloc (.cells #[] 150)) (.slice (some ⟨wr.heap.size, 0, none⟩) 0 0) [] := ⟨rfl, .inr ⟨wr.heap.size, 0, #[], rfl, by omega, heap_alloc_new wr _, Nat.le_refl _, by unfold maxLen; omega, rfl, rfl⟩⟩
      have hbw : Below w.heap.size w (wr.alloc (.cells #[] 150)) := (unhide hBW).trans (BA.mono (unhide hBW).size)
      have hsA : (wr.alloc (.cells #[] 150)).heap.size = wr.heap.size + 1 := by simp
      have hwsz := (unhide hBW).size
      refine (unhide HLI (w.heap.size + 1) (fun x => x < w.heap.size) _ _ (fun q hq => ⟨by rw [hsA]; omega, fun e => by simp [Value.ownBlock] at e; omega⟩) (by rw [hsA]; omega) ((unhide HKB).blw hbw) hOC0).mono ?_
      rintro e w4 ⟨lv, rfl, hOC, hT4, hq4⟩
      have hlt3 := (unhide O3).lt
      have hB4 : Below (w.heap.size + 1) w0 w4 := ((unhide HB).trans (BA.mono (by omega))).trans ((hT4.below (B := w.heap.size + 1) (by rw [hsA]; omega) (fun q hq e => by simp [Value.ownBlock] at e; omega)))
      have O4 := hide (((unhide O3).below BA).kept hT4 (fun q hq e => by have := (hlt3 q hq).2; simp [Value.ownBlock] at e; omega))
      have DJ4 := hide (show ∀ q, lv.ownBlock = some q → u3.ownBlock ≠ some q from fun q hq e => by
        have := (hlt3 q e).2
        rcases hq4 q hq with h | h
        · simp [Value.ownBlock] at h; omega
        · rw [hsA] at h; omega)
      have HB4 := hide hB4
      have HOC := hide hOC
      have hcl : (cmsO o).length = lvO o := by rw [← lvsO_len, ← cms_kv, List.length_map]
      obtain ⟨la, lc, hlv, hln, hlm, _⟩ := hOC.read
      rw [hcl] at hlv hln
      subst hlv
      have hw4 := hB4.size
      clear hOC hT4 hq4 hB4 hOC0 BA hbw hsA hlt3 O3 HB hBW x0 x1 x2 x3 x4 HLI hlm
      go_wp2_with (at_builtin; refine wpList_append_lies _ rfl _ _ _ rfl (w.heap.size + 1) 5 i0 _ 1 1 Tryd.underlying49 hi hz0 hz1 hz2 rfl (by omega) _ xs3.length _ rfl ((unhide O4).1.alloc _) ⟨w4.heap.size, 0, none⟩ 1 1 [_] rfl rfl (World.news_of_block (cs := #[_]) (t := 5) (fr := (0, 0)) (heap_alloc_new w4 _)) (by simp [Value.oneCell']) (by omega) (by have := unhide HX3; unfold maxLen; omega) (by have := unhide HX3; omega) (by simp; omega) _ rfl ?_; intro g5 cap5 w5 hown5 hgrow5 hat5 hlt5; have O5 := hide (ob_news (m := 1) (ys := [(lvO o : Int)]) (unhide O4) rfl (one_range (by omega) (by omega)) hown5); have T5 := hide ((((Touch.refl (fun q => u3.ownBlock = some q) w4).alloc _).grown hgrow5 (fun q hq _ => hq))); have A5 : Hid (u3.ownBlock = some g5 ∨ w4.heap.size ≤ g5) := hide (by rcases hat5 with h | h; exact .inl h; right; simp at h; omega); clear hown5 hgrow5 hat5 hlt5)
      --LOOPS
      generalize hxs5 : xs3 ++ [(lvO o : Int)] = xs5 at *
      have HX5 : Hid (xs5.length ≤ 1702) := hide (by rw [← hxs5, List.length_append]; have := unhide HX3; simp; omega)
      have hXL5 : xs3.length + 1 = xs5.length := by rw [← hxs5, List.length_append]; rfl
      have HB5 := hide ((unhide HB4).trans ((unhide T5).below (by omega) (fun q hq e => by have := ((unhide O4).lt q e).1; omega)))
      have HOC5 := hide ((unhide HOC).kept (unhide T5) (fun q hq e => unhide DJ4 q hq e))
      have DJ5 := hide (show ∀ q, (Value.slice la (lvO o) lc).ownBlock = some q → q ≠ g5 from fun q hq e => by
        subst e
        rcases unhide A5 with h | h
        · exact unhide DJ4 q hq h
        · have := ((unhide HOC).lt q hq).2; omega)
      have HXE5 : Hid (encN ls.length 1 ++ lvsL ls ++ encN (lvO o) 1 = xs5) := hide (by rw [encN_one (n := (lvO o : Int)) (by omega) (by omega), unhide HXE]; exact hxs5)
      have HCK := hide (cms_kv o)
      have HLVK := hide (lvsO_ok o (unhide HOK))
      rw [hXL5] at O5
      have HXL5 := hide hXL5
      clear hXL5
      clear HB4 T5 O4 A5 DJ4 HOC hxs5 HXE HX3 hcl
      go_loopw [3, 6] (fun ov i wr => ∃ (k ga ca : Nat), k ≤ lvO o ∧ i = .int .i64 k ∧ ov = .slice (some ⟨ga, 0, none⟩) (xs5 ++ kvsL ((lvsO o).take k)).length ca ∧ OwnB (w.heap.size + 1) wr (.slice (some ⟨ga, 0, none⟩) (xs5 ++ kvsL ((lvsO o).take k)).length ca) (xs5 ++ kvsL ((lvsO o).take k)) ∧ OwnC (w.heap.size + 1) wr (.slice la (lvO o) lc) (cmsO o) ∧ (∀ q, (Value.slice la (lvO o) lc).ownBlock = some q → q ≠ ga) ∧ Below (w.heap.size + 1) w0 wr) (fun _ i _ => lvO o - (intOf i).toNat)
      case atStart => exact ⟨0, g5, cap5, Nat.zero_le _, rfl, by have h9 := unhide HXL5; first | (simp [kvsL, h9]; done) | (simp [kvsL]; omega), by have h9 := unhide O5; simpa [kvsL] using h9, unhide HOC5, unhide DJ5, unhide HB5⟩
      case round =>
        obtain ⟨k, ga, ca, hk, rfl, rfl, hO, hOC, hDJ, hb⟩ := hrel
        clear O5 HOC5 DJ5 HB5
        have HO := hide hO
        have HOC := hide hOC
        have HB := hide hb
        have hzr := hb.size
        have hKL := kvsL_len ((lvsO o).take k) (fun y hy => unhide HLVK y (List.mem_of_mem_take hy))
        have hTKL : ((lvsO o).take k).length = k := by rw [List.length_take, lvsO_len]; omega
        rw [hTKL] at hKL
        have HXK := hide (show (xs5 ++ kvsL ((lvsO o).take k)).length ≤ 5200 by rw [List.length_append]; have := unhide HX5; omega)
        clear hKL hTKL
        by_cases hlt : k < lvO o
        · obtain ⟨lb, hla, hlbs⟩ : ∃ lb, la = some ⟨lb, 0, none⟩ ∧ lb < wr.heap.size := by
            rcases _root_.Go.Proofs.YtgmaappilopgbaaDoor.own_shape hOC with ⟨hv, h0⟩ | ⟨g', cap', hv, _, hl', _, _⟩
            · simp only [Value.slice.injEq] at hv
              omega
            · simp only [Value.slice.injEq] at hv
              exact ⟨g', hv.1, hl'⟩
          subst hla
          have hlga : lb ≠ ga := hDJ lb rfl
          have hga := hO.lt ga rfl
          have hcl : (cmsO o).length = lvO o := by rw [← lvsO_len, ← unhide HCK, List.length_map]
          have hrow : wr.ownsRow (w.heap.size + 1) 150 5 (.slice (some ⟨lb, 0, none⟩) (lvO o) lc) (lvO o) (csC (cmsO o)) := by
            have h9 := hOC
            unfold OwnC at h9
            rw [hcl] at h9
            exact h9
          obtain ⟨_, _, _, e3, e4⟩ := OwnC.cells hrow k (by omega) hcl.symm
          clear hrow
          have HKV : Hid ((lvsO o).getD k (⟨#[]⟩, ⟨#[]⟩) = (((cmsO o).getD k default).ky, ((cmsO o).getD k default).vl)) := hide (by
            rw [← unhide HCK, List.getD_eq_getElem?_getD, List.getElem?_map, List.getElem?_eq_getElem (by omega), List.getD_eq_getElem?_getD, List.getElem?_eq_getElem (by omega)]
            rfl)
          have HTN := hide (take_next (lvsO o) k (⟨#[]⟩, ⟨#[]⟩) (by rw [lvsO_len]; exact hlt))
          obtain ⟨hky, hvl⟩ := unhide HLVK ((lvsO o).getD k (⟨#[]⟩, ⟨#[]⟩)) (by rw [List.getD_eq_getElem?_getD, List.getElem?_eq_getElem (by rw [lvsO_len]; exact hlt)]; exact List.getElem_mem _)
          rw [unhide HKV] at HTN hky hvl
          dsimp only at hky hvl
          have hk0 : (0 : Int) ≤ (k : Int) := by omega
          have hk1 : (k : Int) < (lvO o : Int) := by omega
          generalize ((cmsO o).getD k default).ky = ky at *
          generalize ((cmsO o).getD k default).vl = vl at *
          have n1 : IntKind.u8.wrap (ky.size : Int) = (ky.size : Int) := by rw [wrapU]; omega
          have n2 : IntKind.u8.wrap (vl.size : Int) = (vl.size : Int) := by rw [wrapU]; omega
          have HXS : Hid (xs5 ++ kvsL ((lvsO o).take k) ++ textsL [ky] ++ textsL [vl] = xs5 ++ kvsL ((lvsO o).take (k + 1))) := hide (by
            rw [unhide HTN, kvsL_app]
            simp [kvsL, textsL, List.append_assoc])
          generalize hxk : xs5 ++ kvsL ((lvsO o).take k) = xk at *
          have hxl := unhide HXK
          have PA := HO
          have hlbAA := hlbs
          have hlbnA : ¬ lb = ga := hlga
          have kAA := e3
          have HE4 := hide e4
          clear hO hOC hDJ hb hxk e3 e4 HKV HTN
          go_wp2_with fail
          go_region_held3 (fun wx => wx.cell? ⟨lb, k * 5 + 3, none⟩ = some (.string ky)) (first | go_keep | exact kAC | exact kAB)
            (first
             | (refine step_append_str _ rfl _ _ _ _ rfl (w.heap.size + 1) 5 i0 Tryd.underlying49 Tryd.underlying9 hi hz0 hz1 hz2 _ (xk.length + 1) _ rfl hownAB ky rfl (by omega) (by omega) (by omega) ?_; intro gC capAC wC hownAC hgrowAC hatAC; have TAC : Touch (fun q => q = ga) wr wC := TAB.grown hgrowAC (fun q hq hlt => (by have hq2 : gB = q := Option.some.inj (show some gB = some q from hq); rcases hgAB with e | e <;> omega)); have kAC := (TAC.cell (p := ⟨lb, k * 5 + 3, none⟩) hlbAA hlbnA).trans kAA)
             | (refine step_append_lies _ rfl _ _ _ rfl (w.heap.size + 1) 5 i0 _ 1 1 Tryd.underlying49 hi hz0 hz1 hz2 rfl (by omega) _ xk.length _ rfl (((unhide PA).1.alloc _).drew) ⟨wr.heap.size, 0, none⟩ 1 1 [_] rfl rfl (World.news_of_block (cs := #[_]) (t := 5) (fr := (0, 0)) (heap_alloc_new wr _)) (by simp [Value.oneCell']) (by omega) (by unfold maxLen; omega) (by omega) (by simp; omega) _ rfl ?_; intro gB capAB wB hownAB hgrowAB hatAB hltAB; have TAB : Touch (fun q => q = ga) wr wB := (((Touch.refl (fun q => q = ga) wr).alloc _).drew).grown hgrowAB (fun q hq _ => (Option.some.inj (show some ga = some q from hq)).symm); have hgAB : gB = ga ∨ wr.heap.size ≤ gB := (by rcases hatAB with e | e; (exact .inl (Option.some.inj (show some ga = some gB from e)).symm); (right; simp at e; omega)); have kAB := (TAB.cell (p := ⟨lb, k * 5 + 3, none⟩) hlbAA hlbnA).trans kAA; have hszAB := TAB.size))
          all_goals
            rename_i hHeld
            clear hHeld
            have OC := hide (own_textL (unhide HO) hownAB (by omega) hownAC)
            have hgC : gC = ga ∨ wr.heap.size ≤ gC := by
              rcases hatAC with e | e
              · have e1 : gB = gC := Option.some.inj (show some gB = some gC from e)
                omega
              · right; omega
            have HTC := hide TAC
            have HOC2 := hide ((unhide HOC).kept TAC (fun q hq e => hlga (by simp [Value.ownBlock] at hq; omega)))
            have HB2 := hide ((unhide HB).trans (TAC.below (by omega) (fun q hq e => by omega)))
            have kC4 := (TAC.cell (p := ⟨lb, k * 5 + 4, none⟩) hlbs hlga).trans (unhide HE4)
            have hszC := TAC.size
            have hlgC : lb ≠ gC := by omega
            have hlbsC : lb < wC.heap.size := by omega
            clear hownAB hgrowAB hatAB hltAB TAB kAB hgAB hownAC hgrowAC hatAC TAC kAC hszAB kAA
            obtain ⟨xk2, hxk2⟩ : ∃ xk2, xk2 = xk ++ textsL [ky] := ⟨_, rfl⟩
            have hxl2 : xk.length + 1 + ky.size = xk2.length := by rw [hxk2, List.length_append, textsL_len]; simp [sizes]; omega
            have hxl3 : xk2.length ≤ 5300 := by omega
            rw [← hxk2, hxl2] at OC
            have hgC2 := (unhide OC).lt gC rfl
            have HXS2 : Hid (xk2 ++ textsL [vl] = xs5 ++ kvsL ((lvsO o).take (k + 1))) := hide (by rw [hxk2]; exact unhide HXS)
            rw [hxl2]
            clear hxk2 HXS
            have PB := OC
            have hlbAB := hlbsC
            have hlbnB : ¬ lb = gC := hlgC
            have kBA := kC4
            go_wp2_with fail
            go_region_held3 (fun wx => wx.cell? ⟨lb, k * 5 + 4, none⟩ = some (.string vl)) (first | go_keep | exact kBC | exact kBB)
              (first
               | (refine step_append_str _ rfl _ _ _ _ rfl (w.heap.size + 1) 5 i0 Tryd.underlying49 Tryd.underlying9 hi hz0 hz1 hz2 _ (xk2.length + 1) _ rfl hownBB vl rfl (by omega) (by omega) (by omega) ?_; intro gE capBC wE hownBC hgrowBC hatBC; have TBC : Touch (fun q => q = gC) wC wE := TBB.grown hgrowBC (fun q hq hlt => (by have hq2 : gD = q := Option.some.inj (show some gD = some q from hq); rcases hgBB with e | e <;> omega)); have kBC := (TBC.cell (p := ⟨lb, k * 5 + 4, none⟩) hlbAB hlbnB).trans kBA)
               | (refine step_append_lies _ rfl _ _ _ rfl (w.heap.size + 1) 5 i0 _ 1 1 Tryd.underlying49 hi hz0 hz1 hz2 rfl (by omega) _ xk2.length _ rfl (((unhide PB).1.alloc _).drew) ⟨wC.heap.size, 0, none⟩ 1 1 [_] rfl rfl (World.news_of_block (cs := #[_]) (t := 5) (fr := (0, 0)) (heap_alloc_new wC _)) (by simp [Value.oneCell']) (by omega) (by unfold maxLen; omega) (by omega) (by simp; omega) _ rfl ?_; intro gD capBB wD hownBB hgrowBB hatBB hltBB; have TBB : Touch (fun q => q = gC) wC wD := (((Touch.refl (fun q => q = gC) wC).alloc _).drew).grown hgrowBB (fun q hq _ => (Option.some.inj (show some gC = some q from hq)).symm); have hgBB : gD = gC ∨ wC.heap.size ≤ gD := (by rcases hatBB with e | e; (exact .inl (Option.some.inj (show some gC = some gD from e)).symm); (right; simp at e; omega)); have kBB := (TBB.cell (p := ⟨lb, k * 5 + 4, none⟩) hlbAB hlbnB).trans kBA; have hszBB := TBB.size))
            all_goals
              rename_i hHeld
              clear hHeld
              have OE := hide (own_textL (unhide OC) hownBB (by omega) hownBC)
              have hgE : gE = gC ∨ wC.heap.size ≤ gE := by
                rcases hatBC with e | e
                · have e1 : gD = gE := Option.some.inj (show some gD = some gE from e)
                  omega
                · right; omega
              have HOC3 := hide ((unhide HOC2).kept TBC (fun q hq e => hlgC (by simp [Value.ownBlock] at hq; omega)))
              have HB3 := hide ((unhide HB2).trans (TBC.below (by omega) (fun q hq e => by omega)))
              have hlgE : lb ≠ gE := by omega
              have hxl4 : xk2.length + 1 + vl.size = (xs5 ++ kvsL ((lvsO o).take (k + 1))).length := by rw [← unhide HXS2, List.length_append, textsL_len]; simp [sizes]; omega
              rw [unhide HXS2, hxl4] at OE
              clear hownBB hgrowBB hatBB hltBB TBB kBB hgBB hownBC hgrowBC hatBC TBC kBC hszBB
              rw [hxl4]
              go_wp2_with fail
              refine ⟨⟨k + 1, gE, capBC, by omega, by go_num, rfl, unhide OE, unhide HOC3, fun q hq e => hlgE (by simp [Value.ownBlock] at hq; omega), unhide HB3⟩, ?_⟩
              simp [intOf]; omega
        · obtain rfl : k = lvO o := by omega
          rw [show (lvsO o).take (lvO o) = lvsO o by rw [← lvsO_len]; exact List.take_length] at hO HXK ⊢
          have HO6 := hide hO
          generalize hx6 : xs5 ++ kvsL (lvsO o) = xs6 at *
          have HX6 := hide hx6
          have x5 := (hb.cell (p := ⟨w.heap.size, 5, none⟩) hX0).trans ((unhide X0).cell 5 rfl)
          have hxl6 := unhide HXK
          have hga6 := hO.lt ga rfl
          clear hO hOC hDJ hb hx6 HO HOC
          go_wp2_with (at_builtin; refine wpList_append_lies _ rfl _ _ _ rfl (w.heap.size + 1) 5 i0 _ 1 1 Tryd.underlying49 hi hz0 hz1 hz2 rfl (by omega) _ xs6.length _ rfl ((unhide HO6).1.alloc _) ⟨wr.heap.size, 0, none⟩ 1 1 [_] rfl rfl (World.news_of_block (cs := #[_]) (t := 5) (fr := (0, 0)) (heap_alloc_new wr _)) (by simp [Value.oneCell']) (by omega) (by unfold maxLen; omega) (by omega) (by simp; omega) _ rfl ?_; intro g7 cap7 w7 hown7 hgrow7 hat7 hlt7; have O7 := hide (ob_news (m := 1) (ys := [(ss.length : Int)]) (unhide HO6) rfl (one_range (by omega) (by omega)) hown7); have T7 := hide ((((Touch.refl (fun q => q = ga) wr).alloc _).grown hgrow7 (fun q hq _ => (Option.some.inj (show some ga = some q from hq)).symm))); clear hown7 hgrow7 hat7 hlt7)
          have HB7 := hide ((unhide HB).trans ((unhide T7).below (by omega) (fun q hq e => by omega)))
          generalize hxs7 : xs6 ++ [(ss.length : Int)] = xs7 at *
          have HX7 := hide (show xs7.length ≤ 5300 by rw [← hxs7, List.length_append]; simp; omega)
          have HXL7 := hide (show xs6.length + 1 = xs7.length by rw [← hxs7, List.length_append]; rfl)
          have HXE7 : Hid (encN ls.length 1 ++ lvsL ls ++ encN (lvO o) 1 ++ kvsL (lvsO o) ++ encN ss.length 1 = xs7) := hide (by rw [unhide HXE5, unhide HX6, encN_one (n := (ss.length : Int)) (by omega) (by omega)]; exact hxs7)
          rw [unhide HXL7] at O7
          clear T7 HO6 hxs7 HX6 HXK HB x5 hxl6 hga6
          go_loopw [3, 7] (fun ov i wr => ∃ (k ga ca : Nat), k ≤ ss.length ∧ i = .int .i64 k ∧ ov = .slice (some ⟨ga, 0, none⟩) (xs7 ++ sesLs (ss.take k)).length ca ∧ OwnB (w.heap.size + 1) wr (.slice (some ⟨ga, 0, none⟩) (xs7 ++ sesLs (ss.take k)).length ca) (xs7 ++ sesLs (ss.take k)) ∧ Below (w.heap.size + 1) w0 wr) (fun _ i _ => ss.length - (intOf i).toNat)
          case atStart => exact ⟨0, g7, cap7, Nat.zero_le _, rfl, by have h9 := unhide HXL7; first | (simp [sesLs, h9]; done) | (simp [sesLs]; omega), by have h9 := unhide O7; simpa [sesLs] using h9, unhide HB7⟩
          case round =>
            obtain ⟨k2, gs, cs, hk2, rfl, rfl, hO, hb⟩ := hrel
            clear O7 HB7

            have HO := hide hO
            have HB := hide hb
            have hzr := hb.size
            have hbw := hide ((unhide B0).trans (hb.mono (by omega)))
            have x5 := (hb.cell (p := ⟨w.heap.size, 5, none⟩) hX0).trans ((unhide X0).cell 5 rfl)
            have hgs := hO.lt gs rfl
            have HXK := hide (show (xs7 ++ sesLs (ss.take k2)).length ≤ 6000 by
              have h1 := sesT_len (unhide HSB).2 k2 hk2
              rw [List.length_append]; have := unhide HX7; omega)
            by_cases hlt : k2 < ss.length
            · obtain ⟨a', cap', hv', hn', hm', hc'⟩ := unhide HZZ
              simp only [Value.slice.injEq, true_and] at hv'
              obtain ⟨rfl, rfl⟩ := hv'
              obtain ⟨b, off, hsa, hbl, hsrc⟩ : ∃ b off, sa = some ⟨b, off, none⟩ ∧ b < w.heap.size ∧ ∀ i, i < ss.length → w.cell? ⟨b, off + i * 5, none⟩ = some (.int .i64 (ss.getD i default).id) ∧ w.cell? ⟨b, off + i * 5 + 1, none⟩ = some (.int .i64 (ss.getD i default).sq) ∧ w.cell? ⟨b, off + i * 5 + 2, none⟩ = some (.int .i64 (ss.getD i default).kd) ∧ w.cell? ⟨b, off + i * 5 + 3, none⟩ = some (.int .i64 (ss.getD i default).pl) ∧ w.cell? ⟨b, off + i * 5 + 4, none⟩ = some (.string (ss.getD i default).vl) := by
                rcases hc' with h0 | h1
                · omega
                · exact h1
              subst hsa
              obtain ⟨s0, s1, s2, s3, s4⟩ := hsrc k2 hlt
              obtain ⟨⟨p0, p1⟩, ⟨p2, p3⟩, ⟨p4, p5⟩, ⟨p6, p7⟩, p8⟩ := ses_bounds (unhide HSB).2 hlt
              have e0 := ((unhide hbw).cell (p := ⟨b, off + k2 * 5, none⟩) hbl).trans s0
              have e1 := ((unhide hbw).cell (p := ⟨b, off + k2 * 5 + 1, none⟩) hbl).trans s1
              have e2 := ((unhide hbw).cell (p := ⟨b, off + k2 * 5 + 2, none⟩) hbl).trans s2
              have e3 := ((unhide hbw).cell (p := ⟨b, off + k2 * 5 + 3, none⟩) hbl).trans s3
              have e4 := ((unhide hbw).cell (p := ⟨b, off + k2 * 5 + 4, none⟩) hbl).trans s4
              have hk0 : (0 : Int) ≤ (k2 : Int) := by omega
              have hk1 : (k2 : Int) < (ss.length : Int) := by omega
              have HTN := hide (take_next ss k2 default hlt)
              generalize ss.getD k2 default = f at *
              obtain ⟨f0, f1, f2, f3, f4⟩ := f
              dsimp only at e0 e1 e2 e3 e4 p0 p1 p2 p3 p4 p5 p6 p7 p8 HTN
              have n2 : IntKind.u8.wrap f2 = f2 := by rw [wrapU]; omega
              have n3 : IntKind.u8.wrap f3 = f3 := by rw [wrapU]; omega
              have n4 : IntKind.u8.wrap (f4.size : Int) = (f4.size : Int) := by rw [wrapU]; omega
              have HXS : Hid (xs7 ++ sesLs (ss.take k2) ++ [f0 / 256 % 256, f0 % 256] ++ [f1 / 256 % 256, f1 % 256] ++ [f2, f3, (f4.size : Int)] ++ bytesI f4 = xs7 ++ sesLs (ss.take (k2 + 1))) := hide (by
                rw [unhide HTN, sesLs_app]
                simp [sesLs, sesL1, encN_two, encN_one p4 (show f2 ≤ 255 by omega), encN_one p6 (show f3 ≤ 255 by omega), textsL, List.append_assoc])
              have HL2 : Hid (∀ (n : Int) (wx : World), (n = f0 ∨ n = f1) → Calls Tryd.prog 102 #[.int .i64 n] wx fun e w' => e = .returned (.slice (some ⟨wx.heap.size, 0, none⟩) 2 2) ∧ w' = wx.alloc (.cells #[.int .u8 (n / 256 % 256), .int .u8 (n % 256)] 5)) := hide (fun n wx hn => l02Two_any n wx (by rcases hn with h | h <;> omega) (by rcases hn with h | h <;> omega))
              generalize hxk : xs7 ++ sesLs (ss.take k2) = xk at *
              have hxl := unhide HXK
              have BA := (Below.refl wr.heap.size wr).alloc (Nat.le_refl _) (.cells #[.int .i64 f0, .int .i64 f1, .int .i64 f2, .int .i64 f3, .string f4] 86)
              have O8 := hide ((unhide HO).below BA)
              have B8 := hide ((unhide HB).trans (BA.mono (by omega)))
              have Y8 := hide (Blk.new wr #[.int .i64 f0, .int .i64 f1, .int .i64 f2, .int .i64 f3, .string f4] 86 wr.heap.size rfl)
              have HS8 := hide (show (wr.alloc (.cells #[.int .i64 f0, .int .i64 f1, .int .i64 f2, .int .i64 f3, .string f4] 86)).heap.size = wr.heap.size + 1 by simp)
              clear hsrc s0 s1 s2 s3 s4 hO hb BA hc' hm' hn' hxk HTN HO HB
              go_wp2_with fail
              clear e0 e1 e2 e3 e4 x5
              generalize wr.alloc (.cells #[.int .i64 f0, .int .i64 f1, .int .i64 f2, .int .i64 f3, .string f4] 86) = w8 at *
              obtain ⟨xb, hxb⟩ : ∃ xb, xb = wr.heap.size := ⟨_, rfl⟩
              rw [← hxb] at Y8 HS8 hzr hgs ⊢
              have hs8 := unhide HS8
              have y80 := (unhide Y8).cell 0 rfl
              have y81 := (unhide Y8).cell 1 rfl
              have hxlt := (unhide Y8).1
              have hxgs : ¬ xb = gs := by omega
              clear hxb HS8 hbw
              have H8 := hide hs8
              clear hs8
              go_region_held3 (fun wx => wx.cell? ⟨xb, 0, none⟩ = some (.int .i64 f0) ∧ wx.cell? ⟨xb, 1, none⟩ = some (.int .i64 f1)) (first | go_keep | exact ⟨yC0, yC1⟩ | exact ⟨yB0, yB1⟩)
                (first
                 | (go_at_call 102; refine (unhide HL2 _ _ (by first | exact .inl rfl | exact .inr rfl)).mono ?_; rintro e w' ⟨rfl, rfl⟩)
                 | (refine step_append_lies _ rfl _ _ _ rfl (w.heap.size + 1) 5 i0 _ 1 1 Tryd.underlying49 hi hz0 hz1 hz2 rfl (by omega) _ (xk.length + 2) _ rfl (hownB.alloc _) ⟨wB.heap.size, 0, none⟩ 2 2 [_, _] rfl rfl (World.news_of_block (cs := #[_, _]) (t := 5) (fr := (0, 0)) (heap_alloc_new wB _)) (by simp [Value.oneCell']) (by omega) (by unfold maxLen; omega) (by omega) (by simp; omega) _ rfl ?_; intro gC capC wC hownC hgrowC hatC hltC; have TC : Touch (fun q => q = gs) w8 wC := (TB.alloc _).grown hgrowC (fun q hq hlt => (by have hq2 : gB = q := Option.some.inj (show some gB = some q from hq); rcases hgB with e | e <;> omega)); have yC0 := (TC.cell (p := ⟨xb, 0, none⟩) hxlt hxgs).trans y80; have yC1 := (TC.cell (p := ⟨xb, 1, none⟩) hxlt hxgs).trans y81)
                 | (refine step_append_lies _ rfl _ _ _ rfl (w.heap.size + 1) 5 i0 _ 1 1 Tryd.underlying49 hi hz0 hz1 hz2 rfl (by omega) _ xk.length _ rfl (((unhide O8).1.drew).alloc _) ⟨w8.heap.size, 0, none⟩ 2 2 [_, _] rfl rfl (World.news_of_block (cs := #[_, _]) (t := 5) (fr := (0, 0)) (heap_alloc_new w8.drew _)) (by simp [Value.oneCell']) (by omega) (by unfold maxLen; omega) (by omega) (by simp; have := unhide H8; omega) _ rfl ?_; intro gB capB wB hownB hgrowB hatB hltB; have TB : Touch (fun q => q = gs) w8 wB := (((Touch.refl (fun q => q = gs) w8).drew).alloc _).grown hgrowB (fun q hq _ => (Option.some.inj (show some gs = some q from hq)).symm); have hgB : gB = gs ∨ w8.heap.size ≤ gB := (by rcases hatB with e | e; (exact .inl (Option.some.inj (show some gs = some gB from e)).symm); (right; simp at e; omega)); have yB0 := (TB.cell (p := ⟨xb, 0, none⟩) hxlt hxgs).trans y80; have yB1 := (TB.cell (p := ⟨xb, 1, none⟩) hxlt hxgs).trans y81; have hszB := TB.size))
              all_goals
                rename_i hHeld
                clear hHeld
                have hl2 : (xk ++ [f0 / 256 % 256, f0 % 256]).length = xk.length + 2 := by simp
                have hl4 : (xk ++ [f0 / 256 % 256, f0 % 256] ++ [f1 / 256 % 256, f1 % 256]).length = xk.length + 2 + 2 := by simp
                have OB := ob_news (m := 2) (ys := [f0 / 256 % 256, f0 % 256]) (unhide O8) rfl (two_range f0) hownB
                have OC : Hid (OwnB (w.heap.size + 1) wC (.slice (some ⟨gC, 0, none⟩) (xk.length + 2 + 2) capC) (xk ++ [f0 / 256 % 256, f0 % 256] ++ [f1 / 256 % 256, f1 % 256])) := hide (by
                  have h9 := ob_news (m := 2) (ys := [f1 / 256 % 256, f1 % 256]) OB rfl (two_range f1) (by rw [hl2, List.map_append]; exact hownC)
                  rw [hl2] at h9
                  exact h9)
                have hgC : gC = gs ∨ w8.heap.size ≤ gC := by
                  rcases hatC with e | e
                  · have e1 : gB = gC := Option.some.inj (show some gB = some gC from e)
                    omega
                  · right; simp at e; omega
                have HBC := hide ((unhide B8).trans (TC.below (by have := unhide H8; omega) (fun q hq e => by omega)))
                have y2 := (TC.cell (p := ⟨xb, 2, none⟩) hxlt hxgs).trans ((unhide Y8).cell 2 rfl)
                have y3 := (TC.cell (p := ⟨xb, 3, none⟩) hxlt hxgs).trans ((unhide Y8).cell 3 rfl)
                have y4 := (TC.cell (p := ⟨xb, 4, none⟩) hxlt hxgs).trans ((unhide Y8).cell 4 rfl)
                have hszC := TC.size
                have hxlC : xb < wC.heap.size := by omega
                have hxgC : xb ≠ gC := by omega
                have h8 := unhide H8
                have hwC : w.heap.size + 1 ≤ wC.heap.size := by omega
                clear hownB hgrowB hatB hltB TB yB0 yB1 hgB hszB hownC hgrowC hatC hltC TC yC0 yC1 OB y80 y81 hl2 O8 B8 Y8 HL2 hszC h8
                generalize hx4 : xk ++ [f0 / 256 % 256, f0 % 256] ++ [f1 / 256 % 256, f1 % 256] = xc at *
                rw [← hl4] at OC
                have hxc : xc.length ≤ 6010 := by omega
                have HXC := hide hl4
                rw [← hl4]
                clear hx4 hl4
                go_wp2_with (at_builtin; first
                  | (refine wpList_append_str _ rfl _ _ _ _ rfl (w.heap.size + 1) 5 i0 Tryd.underlying49 Tryd.underlying9 hi hz0 hz1 hz2 _ (xc.length + 3) _ rfl (own_row3 (unhide OD) (by simp)) f4 rfl (by omega) (by omega) (by omega) ?_; intro gE capE wE hownE hgrowE hatE; have OE := hide (ob_strN (unhide OD) hownE); have BE := hide ((unhide BD).grown hgrowE (by omega) (fun r hr => ((unhide OD).1.lt r hr).1)); clear hownE hgrowE hatE)
                  | (refine wpList_append_lies _ rfl _ _ _ rfl (w.heap.size + 1) 5 i0 _ 1 1 Tryd.underlying49 hi hz0 hz1 hz2 rfl (by omega) _ xc.length _ rfl ((unhide OC).1.alloc _) ⟨wC.heap.size, 0, none⟩ 3 3 [_, _, _] rfl rfl (World.news_of_block (cs := #[_, _, _]) (t := 5) (fr := (0, 0)) (heap_alloc_new wC _)) (by simp [Value.oneCell']) (by omega) (by unfold maxLen; omega) (by omega) (by simp; omega) _ rfl ?_; intro gD capD wD hownD hgrowD hatD hltD; have OD := hide (ob_news (m := 3) (ys := [f2, f3, (f4.size : Int)]) (unhide OC) rfl (three_range p4 (by omega) p6 (by omega) (by omega)) hownD); have TD : Touch (fun q => q = gC) wC wD := ((Touch.refl (fun q => q = gC) wC).alloc _).grown hgrowD (fun q hq _ => (Option.some.inj (show some gC = some q from hq)).symm); have BD := hide ((unhide HBC).trans (TD.below hwC (fun q hq e => by have := ((unhide OC).lt gC rfl).1; omega))); have yD4 := (TD.cell (p := ⟨xb, 4, none⟩) hxlC hxgC).trans y4; have hszD := TD.size; clear hownD hgrowD hatD hltD TD))
                have hxl9 : xc.length + 3 + f4.size = (xs7 ++ sesLs (ss.take (k2 + 1))).length := by rw [← unhide HXS]; simp [bytesI_len]; omega
                have h9 := unhide OE
                rw [unhide HXS, hxl9] at h9
                rw [hxl9]
                refine ⟨⟨k2 + 1, gE, capE, by omega, by go_num, rfl, h9, unhide BE⟩, ?_⟩
                simp [intOf]; omega
            · obtain rfl : k2 = ss.length := by omega
              rw [List.take_length] at hO
              have HFI : Hid (OwnB w.heap.size wr (.slice (some ⟨gs, 0, none⟩) (xs7 ++ sesLs ss).length cs) (snapL ls o ss)) := hide (by
                have e9 : xs7 ++ sesLs ss = snapL ls o ss := by rw [← unhide HXE7]; simp [snapL, List.append_assoc]
                rw [← e9]
                exact hO.mono (by omega))
              clear hO hb HO HB
              rw [List.take_length]
              go_wp2_with fail
              go_ret
              exact ⟨_, rfl, unhide HFI, unhide hbw⟩
end Go.Proofs.YtgmaappilopgbaaDoor.Sha
namespace Go.Proofs.YtgmaappilopgbaaDoor.Sha
open Go.ChangeShapes Go.WideShapes Go.ChangeAt Go.RowKit
set_option linter.unusedVariables false
set_option linter.unusedSimpArgs false

/-- What SnapshotBytes answers. -/
def snOut (ls : List ByteArray) (b : Br) (ss : List Se) : List Int × Int := if ledB ls b ss = true then (match mapV b with
    | none => ([], 1)
    | some o => (snapL ls o ss, 0))
  else ([], 1)
theorem allH_all2 {l : List ByteArray} (h : allH l = true) : AllH l := fun j hj => allH_at h j hj
theorem ledB_facts2 {ls : List ByteArray} {b : Br} {ss : List Se} (h : ledB ls b ss = true) : ls.length ≤ 50 ∧ AllH ls ∧ mapB b = true ∧ sesB ss = true := by
  unfold ledB at h
  simp only [Bool.and_eq_true] at h
  exact ⟨by simpa using h.1.1.1, allH_all2 h.1.1.2, h.1.2, h.2⟩
theorem sep40 {b : Br} {o : Option Tr} (h : mapV b = some o) : lvO o ≤ 40 := by
  have := mapV_sep h
  cases o with
  | none => exact Nat.zero_le _
  | some t => exact this.2
theorem snOut_yes {ls : List ByteArray} {b : Br} {ss : List Se} {o : Option Tr} (h : ledB ls b ss = true) (ho : mapV b = some o) : snOut ls b ss = (snapL ls o ss, 0) := by
  unfold snOut; rw [if_pos h, ho]
theorem snOut_no {ls : List ByteArray} {b : Br} {ss : List Se} (h : ledB ls b ss = false) : snOut ls b ss = ([], 1) := by
  unfold snOut; rw [if_neg (by rw [h]; decide)]
theorem Bk.snap {B : Nat} {w : World} {p g gc h hc : Nat} {tp : Option Addr} {S : Nat → Prop} {ls : List ByteArray} {o : Option Tr} {ss : List Se} {b : Br} (hb : Bk B w p (.slice (some ⟨g, 0, none⟩) ls.length gc) tp (.slice (some ⟨h, 0, none⟩) ss.length hc) S ls o ss) (hl : ledB ls b ss = true) (ho : mapV b = some o) :
    Calls Tryd.prog 62 #[.pointer (some ⟨p, 0, none⟩)] w fun e w' => ∃ v', e = .returned v' ∧ OwnB w.heap.size w' v' (snapL ls o ss) ∧ Below w.heap.size w w' := by
  obtain ⟨h50, hall, _, hs⟩ := ledB_facts2 hl
  obtain ⟨h1, h2, h3, h4, h5, _⟩ := hb
  exact (callsIn_wide (n := 5)).1 (snapshot_in p g gc h hc tp S ls o ss w h1 (SA.own h3) h5 (mapV_br ho).2 (sep40 ho) h4.read h50 hall hs)
set_option maxRecDepth 100000 in
set_option maxHeartbeats 1000000 in
theorem implSnapshotBytes_any (ls : List ByteArray) (k v : ByteArray) (a : Int) (ks : List Br) (ss : List Se) (lb lc : Nat) (ka : Option Addr) (kc : Nat) (sx : Addr) (sc : Nat) (w : World)
    (hS : SA w lb 0 lc ls) (h : LedR w (.slice (some ⟨lb, 0, none⟩) ls.length lc) (.slice ka ks.length kc) (.slice (some sx) ss.length sc) ls ks ss) (t1 : ∀ i, (ls.getD i ByteArray.empty).size ≤ 1048576) (zk : k.size ≤ maxLen) (zv : v.size ≤ maxLen) (t3 : ∀ i, (ss.getD i default).vl.size ≤ 1048576) (ht : Tab w) :
    Calls Tryd.prog 23 #[.agg #[.slice (some ⟨lb, 0, none⟩) ls.length lc, .string k, .string v, .int .i64 a, .slice ka ks.length kc, .slice (some sx) ss.length sc]] w fun e w' => ∃ v', e = .returned (.tuple #[v', .int .i64 (snOut ls (.mk k v a ks) ss).2]) ∧ OwnB w.heap.size w' v' (snOut ls (.mk k v a ks) ss).1 ∧ Below w.heap.size w w' := by
  have B0 := hide ((Below.refl w.heap.size w).alloc (Nat.le_refl _) (.cells #[.slice (some ⟨lb, 0, none⟩) ls.length lc, .string k, .string v, .int .i64 a, .slice ka ks.length kc, .slice (some sx) ss.length sc] 43))
  have HB := hide (openBook_any ls k v a ks ss lb 0 lc ka kc sx sc _ (hS.below (unhide B0)) (h.below (unhide B0)) t1 zk zv t3 (ht.below (unhide B0)))
  have hsz0 : (w.alloc (.cells #[.slice (some ⟨lb, 0, none⟩) ls.length lc, .string k, .string v, .int .i64 a, .slice ka ks.length kc, .slice (some sx) ss.length sc] 43)).heap.size = w.heap.size + 1 := by simp
  clear hS h t1 zk zv t3 ht
  go_enter Tryd.func23, Tryd.ntmps23
  go_wp2_with fail
  refine (unhide HB).mono ?_
  rintro e w1 ⟨pv, rfl, hb1, hok⟩
  have K1 := hide ((unhide B0).trans (hb1.mono (unhide B0).size))
  clear hb1 HB hsz0
  rcases Bool.eq_false_or_eq_true (ledB ls (.mk k v a ks) ss) with hl | hl
  case inr =>
    have E := hide (snOut_no hl)
    rw [hl]
    go_wp2_with fail
    go_ret2
    exact ⟨.slice none 0 0, by rw [unhide E]; rfl, by rw [unhide E]; exact OwnB.nil _ _, unhide K1⟩
  obtain ⟨p, g, gc, tp, h2, hc2, S, o, rfl, ho, hbk⟩ := hok hl
  have E := hide (snOut_yes hl ho)
  have HSN := hide (hbk.snap hl ho)
  clear hok
  rw [hl]
  clear hbk
  go_wp2_with fail
  refine (unhide HSN).mono ?_
  rintro e w2 ⟨v', rfl, hO, hb2⟩
  have O2 := hide (hO.mono (unhide K1).size)
  have K2 := hide ((unhide K1).trans (hb2.mono (unhide K1).size))
  clear hO hb2
  go_wp2_with fail
  go_ret2
  exact ⟨v', by rw [unhide E]; rfl, by rw [unhide E]; exact unhide O2, unhide K2⟩
set_option maxRecDepth 100000 in
set_option maxHeartbeats 1000000 in
theorem specSnapshotBytes_any (ls : List ByteArray) (k v : ByteArray) (a : Int) (ks : List Br) (ss : List Se) (lb lc : Nat) (ka : Option Addr) (kc : Nat) (sx : Addr) (sc : Nat) (w : World)
    (hS : SA w lb 0 lc ls) (h : LedR w (.slice (some ⟨lb, 0, none⟩) ls.length lc) (.slice ka ks.length kc) (.slice (some sx) ss.length sc) ls ks ss) (t1 : ∀ i, (ls.getD i ByteArray.empty).size ≤ 1048576) (zk : k.size ≤ maxLen) (zv : v.size ≤ maxLen) (t3 : ∀ i, (ss.getD i default).vl.size ≤ 1048576) :
    Calls Tryd.prog 22 #[.agg #[.slice (some ⟨lb, 0, none⟩) ls.length lc, .string k, .string v, .int .i64 a, .slice ka ks.length kc, .slice (some sx) ss.length sc]] w fun e w' => ∃ v', e = .returned (.tuple #[v', .int .i64 (snOut ls (.mk k v a ks) ss).2]) ∧ OwnB w.heap.size w' v' (snOut ls (.mk k v a ks) ss).1 ∧ Below w.heap.size w w' := by
  have B0 := hide ((Below.refl w.heap.size w).alloc (Nat.le_refl _) (.cells #[.slice (some ⟨lb, 0, none⟩) ls.length lc, .string k, .string v, .int .i64 a, .slice ka ks.length kc, .slice (some sx) ss.length sc] 43))
  have X0 := hide (Blk.new w #[.slice (some ⟨lb, 0, none⟩) ls.length lc, .string k, .string v, .int .i64 a, .slice ka ks.length kc, .slice (some sx) ss.length sc] 43 w.heap.size rfl)
  have HB := hide (specLedgerOK_any ls k v a ks ss lb 0 lc ka kc (some sx) sc _ (hS.below (unhide B0)) (h.below (unhide B0)) t1 zk zv t3)
  rcases Bool.eq_false_or_eq_true (ledB ls (.mk k v a ks) ss) with hl | hl
  case inr =>
    have E := hide (snOut_no hl)
    rw [hl] at HB
    clear hS h t1 t3 zk zv
    go_enter Tryd.func22, Tryd.ntmps22
    go_wp2_with fail
    refine (unhide HB).mono ?_
    rintro e w1 ⟨rfl, hb1⟩
    have K1 := hide ((unhide B0).trans (hb1.mono (unhide B0).size))
    have K2 := hide ((unhide K1).alloc (unhide K1).size (.cells #[] 5))
    have hsz1 := (unhide K1).size
    have OE := hide (own_empty w1 w.heap.size w1.heap.size rfl hsz1)
    clear hb1
    go_wp2_with fail
    go_ret2
    exact ⟨_, by rw [unhide E]; rfl, by rw [unhide E]; exact unhide OE, unhide K2⟩
  obtain ⟨h50, hall, hmb, hses⟩ := ledB_facts2 hl
  obtain ⟨o, ho⟩ : ∃ o, mapV (.mk k v a ks) = some o := by
    rw [mapB_V] at hmb
    exact Option.isSome_iff_exists.1 hmb
  obtain ⟨hbr, hok⟩ := mapV_br ho
  have E := hide (snOut_yes hl ho)
  rw [hl] at HB
  have h40 := sep40 ho
  obtain rfl : k = (brOf o).key := by rw [← hbr]; rfl
  obtain rfl : v = (brOf o).val := by rw [← hbr]; rfl
  obtain rfl : a = (brOf o).at_ := by rw [← hbr]; rfl
  obtain rfl : ks = (brOf o).kids := by rw [← hbr]; rfl
  have HRT := hide (fun wx (hx : Below w.heap.size w wx) => l09Snapshot_any ls o ss lb lc ka kc (some sx) sc wx (hS.below hx) (h.kv.blw hx) (h.sv.below hx) h50 hall hok h40 hses)
  generalize snOut ls (.mk (brOf o).key (brOf o).val (brOf o).at_ (brOf o).kids) ss = R at *
  generalize (brOf o).key = bk at *
  generalize (brOf o).val = bv at *
  generalize (brOf o).at_ = ba at *
  generalize (brOf o).kids.length = bn at *
  clear hS h t1 t3 zk zv hall hok hbr ho hl hmb hses
  go_enter Tryd.func22, Tryd.ntmps22
  go_wp2_with fail
  refine (unhide HB).mono ?_
  rintro e w1 ⟨rfl, hb1⟩
  have K1 := hide ((unhide B0).trans (hb1.mono (unhide B0).size))
  have X1 := (unhide X0).below hb1
  have x0 := X1.cell 0 rfl
  have x1 := X1.cell 1 rfl
  have x2 := X1.cell 2 rfl
  have x3 := X1.cell 3 rfl
  have x4 := X1.cell 4 rfl
  have x5 := X1.cell 5 rfl
  clear hb1 X1 X0
  go_wp2_with fail
  refine (unhide HRT w1 (unhide K1)).mono ?_
  rintro e w2 ⟨v', rfl, hO, hb2⟩
  have O2 := hide (hO.mono (unhide K1).size)
  have K2 := hide ((unhide K1).trans (hb2.mono (unhide K1).size))
  clear hO hb2
  go_wp2_with fail
  go_ret2
  exact ⟨v', by rw [unhide E]; rfl, by rw [unhide E]; exact unhide O2, unhide K2⟩
/-- What SameLedger answers. -/
def saB (ls1 : List ByteArray) (b1 : Br) (ss1 : List Se) (ls2 : List ByteArray) (b2 : Br) (ss2 : List Se) : Bool := if ledB ls1 b1 ss1 = true ∧ ledB ls2 b2 ss2 = true then decide (strOfNums (snOut ls1 b1 ss1).1 = strOfNums (snOut ls2 b2 ss2).1) else false
def saC (ls1 : List ByteArray) (b1 : Br) (ss1 : List Se) (ls2 : List ByteArray) (b2 : Br) (ss2 : List Se) : Int := if ledB ls1 b1 ss1 = true ∧ ledB ls2 b2 ss2 = true then 0 else 1
set_option maxRecDepth 100000 in
theorem bytesEqual_any (v1 v2 : Value) (xs ys : List Int) (B1 B2 : Nat) (w : World) (h1 : OwnB B1 w v1 xs) (h2 : OwnB B2 w v2 ys) :
    Calls Tryd.prog 65 #[v1, v2] w fun e w' => e = .returned (.bool (decide (strOfNums xs = strOfNums ys))) ∧ w' = w := by
  have c1 := conv_own (P := Tryd.prog) 49 9 5 Tryd.underlying49 Tryd.underlying5 Tryd.underlying9 h1.1
  have c2 := conv_own (P := Tryd.prog) 49 9 5 Tryd.underlying49 Tryd.underlying5 Tryd.underlying9 h2.1
  clear h1 h2
  generalize strOfNums xs = s1 at *
  generalize strOfNums ys = s2 at *
  by_cases he : s1 = s2
  · subst he
    rw [decide_eq_true rfl]
    go_enter Tryd.func65, Tryd.ntmps65
    go_wp2_with fail
    go_ret
    exact ⟨by first | rfl | simp, rfl⟩
  · have e2 := list_ne he
    rw [decide_eq_false he]
    go_enter Tryd.func65, Tryd.ntmps65
    go_wp2_with fail
    go_ret
    exact ⟨by first | rfl | simp [e2], rfl⟩
set_option maxRecDepth 100000 in
set_option maxHeartbeats 2000000 in
theorem implSameLedger_any (ls1 : List ByteArray) (k1 v1 : ByteArray) (a1 : Int) (ks1 : List Br) (ss1 : List Se) (lb1 lc1 : Nat) (ka1 : Option Addr) (kc1 : Nat) (sx1 : Addr) (sc1 : Nat) (ls2 : List ByteArray) (k2 v2 : ByteArray) (a2 : Int) (ks2 : List Br) (ss2 : List Se) (lb2 lc2 : Nat) (ka2 : Option Addr) (kc2 : Nat) (sx2 : Addr) (sc2 : Nat) (w : World)
    (hS1 : SA w lb1 0 lc1 ls1) (h1 : LedR w (.slice (some ⟨lb1, 0, none⟩) ls1.length lc1) (.slice ka1 ks1.length kc1) (.slice (some sx1) ss1.length sc1) ls1 ks1 ss1) (t11 : ∀ i, (ls1.getD i ByteArray.empty).size ≤ 1048576) (zk1 : k1.size ≤ maxLen) (zv1 : v1.size ≤ maxLen) (t31 : ∀ i, (ss1.getD i default).vl.size ≤ 1048576)
    (hS2 : SA w lb2 0 lc2 ls2) (h2 : LedR w (.slice (some ⟨lb2, 0, none⟩) ls2.length lc2) (.slice ka2 ks2.length kc2) (.slice (some sx2) ss2.length sc2) ls2 ks2 ss2) (t12 : ∀ i, (ls2.getD i ByteArray.empty).size ≤ 1048576) (zk2 : k2.size ≤ maxLen) (zv2 : v2.size ≤ maxLen) (t32 : ∀ i, (ss2.getD i default).vl.size ≤ 1048576) (ht : Tab w) :
    Calls Tryd.prog 29 #[.agg #[.slice (some ⟨lb1, 0, none⟩) ls1.length lc1, .string k1, .string v1, .int .i64 a1, .slice ka1 ks1.length kc1, .slice (some sx1) ss1.length sc1], .agg #[.slice (some ⟨lb2, 0, none⟩) ls2.length lc2, .string k2, .string v2, .int .i64 a2, .slice ka2 ks2.length kc2, .slice (some sx2) ss2.length sc2]] w fun e w' => e = .returned (.tuple #[.bool (saB ls1 (.mk k1 v1 a1 ks1) ss1 ls2 (.mk k2 v2 a2 ks2) ss2), .int .i64 (saC ls1 (.mk k1 v1 a1 ks1) ss1 ls2 (.mk k2 v2 a2 ks2) ss2)]) ∧ Below w.heap.size w w' := by
  have B0 := hide (((Below.refl w.heap.size w).alloc (Nat.le_refl _) (.cells #[.slice (some ⟨lb1, 0, none⟩) ls1.length lc1, .string k1, .string v1, .int .i64 a1, .slice ka1 ks1.length kc1, .slice (some sx1) ss1.length sc1] 43)).alloc (by simp) (.cells #[.slice (some ⟨lb2, 0, none⟩) ls2.length lc2, .string k2, .string v2, .int .i64 a2, .slice ka2 ks2.length kc2, .slice (some sx2) ss2.length sc2] 43))
  have X2 := hide (Blk.new (w.alloc (.cells #[.slice (some ⟨lb1, 0, none⟩) ls1.length lc1, .string k1, .string v1, .int .i64 a1, .slice ka1 ks1.length kc1, .slice (some sx1) ss1.length sc1] 43)) #[.slice (some ⟨lb2, 0, none⟩) ls2.length lc2, .string k2, .string v2, .int .i64 a2, .slice ka2 ks2.length kc2, .slice (some sx2) ss2.length sc2] 43 (w.heap.size + 1) (by simp))
  have HB1 := hide (fun wx (hx : Below w.heap.size w wx) => openBook_any ls1 k1 v1 a1 ks1 ss1 lb1 0 lc1 ka1 kc1 sx1 sc1 wx (hS1.below hx) (h1.below hx) t11 zk1 zv1 t31 (ht.below hx))
  have HB2 := hide (fun wx (hx : Below w.heap.size w wx) => openBook_any ls2 k2 v2 a2 ks2 ss2 lb2 0 lc2 ka2 kc2 sx2 sc2 wx (hS2.below hx) (h2.below hx) t12 zk2 zv2 t32 (ht.below hx))
  have HE1 : Hid (saB ls1 (.mk k1 v1 a1 ks1) ss1 ls2 (.mk k2 v2 a2 ks2) ss2 = if ledB ls1 (.mk k1 v1 a1 ks1) ss1 = true ∧ ledB ls2 (.mk k2 v2 a2 ks2) ss2 = true then decide (strOfNums (snOut ls1 (.mk k1 v1 a1 ks1) ss1).1 = strOfNums (snOut ls2 (.mk k2 v2 a2 ks2) ss2).1) else false) := rfl
  have HE2 : Hid (saC ls1 (.mk k1 v1 a1 ks1) ss1 ls2 (.mk k2 v2 a2 ks2) ss2 = if ledB ls1 (.mk k1 v1 a1 ks1) ss1 = true ∧ ledB ls2 (.mk k2 v2 a2 ks2) ss2 = true then 0 else 1) := rfl
  generalize saB ls1 (.mk k1 v1 a1 ks1) ss1 ls2 (.mk k2 v2 a2 ks2) ss2 = RB at *
  generalize saC ls1 (.mk k1 v1 a1 ks1) ss1 ls2 (.mk k2 v2 a2 ks2) ss2 = RC at *
  clear hS1 h1 t11 zk1 zv1 t31 hS2 h2 t12 zk2 zv2 t32 ht
  go_enter Tryd.func29, Tryd.ntmps29
  go_wp2_with fail
  generalize (w.alloc (.cells #[.slice (some ⟨lb1, 0, none⟩) ls1.length lc1, .string k1, .string v1, .int .i64 a1, .slice ka1 ks1.length kc1, .slice (some sx1) ss1.length sc1] 43)).alloc (.cells #[.slice (some ⟨lb2, 0, none⟩) ls2.length lc2, .string k2, .string v2, .int .i64 a2, .slice ka2 ks2.length kc2, .slice (some sx2) ss2.length sc2] 43) = w0 at *
  refine (unhide HB1 w0 (unhide B0)).mono ?_
  rintro e w1 ⟨pv1, rfl, hb1, hok1⟩
  have K1 := hide ((unhide B0).trans (hb1.mono (unhide B0).size))
  have Y1 := (unhide X2).below hb1
  have y0 := Y1.cell 0 rfl
  have y1 := Y1.cell 1 rfl
  have y2 := Y1.cell 2 rfl
  have y3 := Y1.cell 3 rfl
  have y4 := Y1.cell 4 rfl
  have y5 := Y1.cell 5 rfl
  clear hb1 Y1 X2 HB1
  rcases Bool.eq_false_or_eq_true (ledB ls1 (.mk k1 v1 a1 ks1) ss1) with hl1 | hl1
  case inr =>
    obtain rfl : RB = false := by rw [unhide HE1, if_neg (by rw [hl1]; simp)]
    obtain rfl : RC = 1 := by rw [unhide HE2, if_neg (by rw [hl1]; simp)]
    rw [hl1]
    go_wp2_with fail
    go_ret2
    exact ⟨rfl, unhide K1⟩
  obtain ⟨p1, g1, gc1, tp1, h21, hc21, S1, o1, rfl, ho1, hbk1⟩ := hok1 hl1
  have HBK1 := hide hbk1
  rw [hl1]
  clear hok1 hbk1
  go_wp2_with fail
  refine (unhide HB2 w1 (unhide K1)).mono ?_
  rintro e w2 ⟨pv2, rfl, hb2, hok2⟩
  have K2 := hide ((unhide K1).trans (hb2.mono (unhide K1).size))
  have HBK1b := hide ((unhide HBK1).below hb2)
  clear hb2 HBK1 HB2 y0 y1 y2 y3 y4 y5
  rcases Bool.eq_false_or_eq_true (ledB ls2 (.mk k2 v2 a2 ks2) ss2) with hl2 | hl2
  case inr =>
    obtain rfl : RB = false := by rw [unhide HE1, if_neg (by rw [hl2]; simp)]
    obtain rfl : RC = 1 := by rw [unhide HE2, if_neg (by rw [hl2]; simp)]
    rw [hl2]
    go_wp2_with fail
    go_ret2
    exact ⟨rfl, unhide K2⟩
  obtain ⟨p2, g2, gc2, tp2, h22, hc22, S2, o2, rfl, ho2, hbk2⟩ := hok2 hl2
  obtain rfl : RB = decide (strOfNums (snapL ls1 o1 ss1) = strOfNums (snapL ls2 o2 ss2)) := by rw [unhide HE1, if_pos ⟨hl1, hl2⟩, snOut_yes hl1 ho1, snOut_yes hl2 ho2]
  obtain rfl : RC = 0 := by rw [unhide HE2, if_pos ⟨hl1, hl2⟩]
  have HN1 := hide (fun wx (hx : Below w2.heap.size w2 wx) => ((unhide HBK1b).below hx).snap hl1 ho1)
  have HN2 := hide (fun wx (hx : Below w2.heap.size w2 wx) => (hbk2.below hx).snap hl2 ho2)
  clear hok2 hbk2 HBK1b HE1 HE2
  rw [hl2]
  go_wp2_with fail
  first
    | (refine (unhide HN1 w2 (Below.refl _ _)).mono ?_)
    | skip
  rintro e w3 ⟨u3, rfl, hO3, hb3⟩
  have O3 := hide hO3
  have B3 := hide hb3
  clear hO3 hb3
  go_wp2_with fail
  refine (unhide HN2 w3 (unhide B3)).mono ?_
  rintro e w4 ⟨u4, rfl, hO4, hb4⟩
  have O3b := hide ((unhide O3).below hb4)
  have O4 := hide hO4
  have K4 := hide ((unhide K2).trans (((unhide B3).trans (hb4.mono (unhide B3).size)).mono (unhide K2).size))
  clear hO4 hb4
  go_wp2_with fail
  refine (bytesEqual_any u3 u4 (snapL ls1 o1 ss1) (snapL ls2 o2 ss2) _ _ w4 (unhide O3b) (unhide O4)).mono ?_
  rintro e w5 ⟨rfl, hw5⟩
  subst hw5
  go_wp2_with fail
  go_ret2
  exact ⟨rfl, unhide K4⟩
set_option maxRecDepth 100000 in
set_option maxHeartbeats 2000000 in
theorem specSameLedger_any (ls1 : List ByteArray) (k1 v1 : ByteArray) (a1 : Int) (ks1 : List Br) (ss1 : List Se) (lb1 lc1 : Nat) (ka1 : Option Addr) (kc1 : Nat) (sx1 : Addr) (sc1 : Nat) (ls2 : List ByteArray) (k2 v2 : ByteArray) (a2 : Int) (ks2 : List Br) (ss2 : List Se) (lb2 lc2 : Nat) (ka2 : Option Addr) (kc2 : Nat) (sx2 : Addr) (sc2 : Nat) (w : World)
    (hS1 : SA w lb1 0 lc1 ls1) (h1 : LedR w (.slice (some ⟨lb1, 0, none⟩) ls1.length lc1) (.slice ka1 ks1.length kc1) (.slice (some sx1) ss1.length sc1) ls1 ks1 ss1) (t11 : ∀ i, (ls1.getD i ByteArray.empty).size ≤ 1048576) (zk1 : k1.size ≤ maxLen) (zv1 : v1.size ≤ maxLen) (t31 : ∀ i, (ss1.getD i default).vl.size ≤ 1048576)
    (hS2 : SA w lb2 0 lc2 ls2) (h2 : LedR w (.slice (some ⟨lb2, 0, none⟩) ls2.length lc2) (.slice ka2 ks2.length kc2) (.slice (some sx2) ss2.length sc2) ls2 ks2 ss2) (t12 : ∀ i, (ls2.getD i ByteArray.empty).size ≤ 1048576) (zk2 : k2.size ≤ maxLen) (zv2 : v2.size ≤ maxLen) (t32 : ∀ i, (ss2.getD i default).vl.size ≤ 1048576) :
    Calls Tryd.prog 28 #[.agg #[.slice (some ⟨lb1, 0, none⟩) ls1.length lc1, .string k1, .string v1, .int .i64 a1, .slice ka1 ks1.length kc1, .slice (some sx1) ss1.length sc1], .agg #[.slice (some ⟨lb2, 0, none⟩) ls2.length lc2, .string k2, .string v2, .int .i64 a2, .slice ka2 ks2.length kc2, .slice (some sx2) ss2.length sc2]] w fun e w' => e = .returned (.tuple #[.bool (saB ls1 (.mk k1 v1 a1 ks1) ss1 ls2 (.mk k2 v2 a2 ks2) ss2), .int .i64 (saC ls1 (.mk k1 v1 a1 ks1) ss1 ls2 (.mk k2 v2 a2 ks2) ss2)]) ∧ Below w.heap.size w w' := by
  have B0 := hide (((Below.refl w.heap.size w).alloc (Nat.le_refl _) (.cells #[.slice (some ⟨lb1, 0, none⟩) ls1.length lc1, .string k1, .string v1, .int .i64 a1, .slice ka1 ks1.length kc1, .slice (some sx1) ss1.length sc1] 43)).alloc (by simp) (.cells #[.slice (some ⟨lb2, 0, none⟩) ls2.length lc2, .string k2, .string v2, .int .i64 a2, .slice ka2 ks2.length kc2, .slice (some sx2) ss2.length sc2] 43))
  have X1 := hide ((Blk.new w #[.slice (some ⟨lb1, 0, none⟩) ls1.length lc1, .string k1, .string v1, .int .i64 a1, .slice ka1 ks1.length kc1, .slice (some sx1) ss1.length sc1] 43 w.heap.size rfl).alloc (.cells #[.slice (some ⟨lb2, 0, none⟩) ls2.length lc2, .string k2, .string v2, .int .i64 a2, .slice ka2 ks2.length kc2, .slice (some sx2) ss2.length sc2] 43))
  have X2 := hide (Blk.new (w.alloc (.cells #[.slice (some ⟨lb1, 0, none⟩) ls1.length lc1, .string k1, .string v1, .int .i64 a1, .slice ka1 ks1.length kc1, .slice (some sx1) ss1.length sc1] 43)) #[.slice (some ⟨lb2, 0, none⟩) ls2.length lc2, .string k2, .string v2, .int .i64 a2, .slice ka2 ks2.length kc2, .slice (some sx2) ss2.length sc2] 43 (w.heap.size + 1) (by simp))
  have HB1 := hide (fun wx (hx : Below w.heap.size w wx) => specLedgerOK_any ls1 k1 v1 a1 ks1 ss1 lb1 0 lc1 ka1 kc1 (some sx1) sc1 wx (hS1.below hx) (h1.below hx) t11 zk1 zv1 t31)
  have HB2 := hide (fun wx (hx : Below w.heap.size w wx) => specLedgerOK_any ls2 k2 v2 a2 ks2 ss2 lb2 0 lc2 ka2 kc2 (some sx2) sc2 wx (hS2.below hx) (h2.below hx) t12 zk2 zv2 t32)
  have HE1 : Hid (saB ls1 (.mk k1 v1 a1 ks1) ss1 ls2 (.mk k2 v2 a2 ks2) ss2 = if ledB ls1 (.mk k1 v1 a1 ks1) ss1 = true ∧ ledB ls2 (.mk k2 v2 a2 ks2) ss2 = true then decide (strOfNums (snOut ls1 (.mk k1 v1 a1 ks1) ss1).1 = strOfNums (snOut ls2 (.mk k2 v2 a2 ks2) ss2).1) else false) := rfl
  have HE2 : Hid (saC ls1 (.mk k1 v1 a1 ks1) ss1 ls2 (.mk k2 v2 a2 ks2) ss2 = if ledB ls1 (.mk k1 v1 a1 ks1) ss1 = true ∧ ledB ls2 (.mk k2 v2 a2 ks2) ss2 = true then 0 else 1) := rfl
  have HN1 : Hid (∀ o1, ledB ls1 (.mk k1 v1 a1 ks1) ss1 = true → mapV (.mk k1 v1 a1 ks1) = some o1 → ∀ wx, Below w.heap.size w wx → Calls Tryd.prog 61 #[.agg #[.slice (some ⟨lb1, 0, none⟩) ls1.length lc1, .string k1, .string v1, .int .i64 a1, .slice ka1 ks1.length kc1, .slice (some sx1) ss1.length sc1]] wx fun e w' => ∃ v', e = .returned v' ∧ OwnB wx.heap.size w' v' (snapL ls1 o1 ss1) ∧ Below wx.heap.size wx w') := hide (fun o1 hl ho wx hx => by
    obtain ⟨h50, hall, _, hses⟩ := ledB_facts2 hl
    obtain ⟨hbr1, hok⟩ := mapV_br ho
    have h40 := sep40 ho
    obtain rfl : k1 = (brOf o1).key := by rw [← hbr1]; rfl
    obtain rfl : v1 = (brOf o1).val := by rw [← hbr1]; rfl
    obtain rfl : a1 = (brOf o1).at_ := by rw [← hbr1]; rfl
    obtain rfl : ks1 = (brOf o1).kids := by rw [← hbr1]; rfl
    exact l09Snapshot_any ls1 o1 ss1 lb1 lc1 ka1 kc1 (some sx1) sc1 wx (hS1.below hx) (h1.kv.blw hx) (h1.sv.below hx) h50 hall hok h40 hses)
  have HN2 : Hid (∀ o2, ledB ls2 (.mk k2 v2 a2 ks2) ss2 = true → mapV (.mk k2 v2 a2 ks2) = some o2 → ∀ wx, Below w.heap.size w wx → Calls Tryd.prog 61 #[.agg #[.slice (some ⟨lb2, 0, none⟩) ls2.length lc2, .string k2, .string v2, .int .i64 a2, .slice ka2 ks2.length kc2, .slice (some sx2) ss2.length sc2]] wx fun e w' => ∃ v', e = .returned v' ∧ OwnB wx.heap.size w' v' (snapL ls2 o2 ss2) ∧ Below wx.heap.size wx w') := hide (fun o2 hl ho wx hx => by
    obtain ⟨h50, hall, _, hses⟩ := ledB_facts2 hl
    obtain ⟨hbr2, hok⟩ := mapV_br ho
    have h40 := sep40 ho
    obtain rfl : k2 = (brOf o2).key := by rw [← hbr2]; rfl
    obtain rfl : v2 = (brOf o2).val := by rw [← hbr2]; rfl
    obtain rfl : a2 = (brOf o2).at_ := by rw [← hbr2]; rfl
    obtain rfl : ks2 = (brOf o2).kids := by rw [← hbr2]; rfl
    exact l09Snapshot_any ls2 o2 ss2 lb2 lc2 ka2 kc2 (some sx2) sc2 wx (hS2.below hx) (h2.kv.blw hx) (h2.sv.below hx) h50 hall hok h40 hses)
  generalize saB ls1 (.mk k1 v1 a1 ks1) ss1 ls2 (.mk k2 v2 a2 ks2) ss2 = RB at *
  generalize saC ls1 (.mk k1 v1 a1 ks1) ss1 ls2 (.mk k2 v2 a2 ks2) ss2 = RC at *
  clear hS1 h1 t11 zk1 zv1 t31 hS2 h2 t12 zk2 zv2 t32
  rcases Bool.eq_false_or_eq_true (ledB ls1 (.mk k1 v1 a1 ks1) ss1) with hl1 | hl1
  case inr =>
    obtain rfl : RB = false := by rw [unhide HE1, if_neg (by rw [hl1]; simp)]
    obtain rfl : RC = 1 := by rw [unhide HE2, if_neg (by rw [hl1]; simp)]
    rw [hl1] at HB1
    clear HN1 HN2
    go_enter Tryd.func28, Tryd.ntmps28
    go_wp2_with fail
    generalize (w.alloc (.cells #[.slice (some ⟨lb1, 0, none⟩) ls1.length lc1, .string k1, .string v1, .int .i64 a1, .slice ka1 ks1.length kc1, .slice (some sx1) ss1.length sc1] 43)).alloc (.cells #[.slice (some ⟨lb2, 0, none⟩) ls2.length lc2, .string k2, .string v2, .int .i64 a2, .slice ka2 ks2.length kc2, .slice (some sx2) ss2.length sc2] 43) = w0 at *
    refine (unhide HB1 w0 (unhide B0)).mono ?_
    rintro e w1 ⟨rfl, hb1⟩
    have K1 := hide ((unhide B0).trans (hb1.mono (unhide B0).size))
    clear hb1
    go_wp2_with fail
    go_ret2
    exact ⟨rfl, unhide K1⟩
  rcases Bool.eq_false_or_eq_true (ledB ls2 (.mk k2 v2 a2 ks2) ss2) with hl2 | hl2
  case inr =>
    obtain rfl : RB = false := by rw [unhide HE1, if_neg (by rw [hl2]; simp)]
    obtain rfl : RC = 1 := by rw [unhide HE2, if_neg (by rw [hl2]; simp)]
    rw [hl1] at HB1
    rw [hl2] at HB2
    clear HN1 HN2
    go_enter Tryd.func28, Tryd.ntmps28
    go_wp2_with fail
    generalize (w.alloc (.cells #[.slice (some ⟨lb1, 0, none⟩) ls1.length lc1, .string k1, .string v1, .int .i64 a1, .slice ka1 ks1.length kc1, .slice (some sx1) ss1.length sc1] 43)).alloc (.cells #[.slice (some ⟨lb2, 0, none⟩) ls2.length lc2, .string k2, .string v2, .int .i64 a2, .slice ka2 ks2.length kc2, .slice (some sx2) ss2.length sc2] 43) = w0 at *
    refine (unhide HB1 w0 (unhide B0)).mono ?_
    rintro e w1 ⟨rfl, hb1⟩
    have K1 := hide ((unhide B0).trans (hb1.mono (unhide B0).size))
    have Y1 := (unhide X2).below hb1
    have y0 := Y1.cell 0 rfl
    have y1 := Y1.cell 1 rfl
    have y2 := Y1.cell 2 rfl
    have y3 := Y1.cell 3 rfl
    have y4 := Y1.cell 4 rfl
    have y5 := Y1.cell 5 rfl
    clear hb1 Y1
    go_wp2_with fail
    refine (unhide HB2 w1 (unhide K1)).mono ?_
    rintro e w2 ⟨rfl, hb2⟩
    have K2 := hide ((unhide K1).trans (hb2.mono (unhide K1).size))
    clear hb2
    go_wp2_with fail
    go_ret2
    exact ⟨rfl, unhide K2⟩
  obtain ⟨o1, ho1⟩ : ∃ o, mapV (.mk k1 v1 a1 ks1) = some o := by
    have hmb := (ledB_facts2 hl1).2.2.1
    rw [mapB_V] at hmb
    exact Option.isSome_iff_exists.1 hmb
  obtain ⟨o2, ho2⟩ : ∃ o, mapV (.mk k2 v2 a2 ks2) = some o := by
    have hmb := (ledB_facts2 hl2).2.2.1
    rw [mapB_V] at hmb
    exact Option.isSome_iff_exists.1 hmb
  obtain rfl : RB = decide (strOfNums (snapL ls1 o1 ss1) = strOfNums (snapL ls2 o2 ss2)) := by rw [unhide HE1, if_pos ⟨hl1, hl2⟩, snOut_yes hl1 ho1, snOut_yes hl2 ho2]
  obtain rfl : RC = 0 := by rw [unhide HE2, if_pos ⟨hl1, hl2⟩]
  have HM1 := hide (unhide HN1 o1 hl1 ho1)
  have HM2 := hide (unhide HN2 o2 hl2 ho2)
  rw [hl1] at HB1
  rw [hl2] at HB2
  clear HN1 HN2 HE1 HE2 hl1 hl2 ho1 ho2
  go_enter Tryd.func28, Tryd.ntmps28
  go_wp2_with fail
  generalize (w.alloc (.cells #[.slice (some ⟨lb1, 0, none⟩) ls1.length lc1, .string k1, .string v1, .int .i64 a1, .slice ka1 ks1.length kc1, .slice (some sx1) ss1.length sc1] 43)).alloc (.cells #[.slice (some ⟨lb2, 0, none⟩) ls2.length lc2, .string k2, .string v2, .int .i64 a2, .slice ka2 ks2.length kc2, .slice (some sx2) ss2.length sc2] 43) = w0 at *
  refine (unhide HB1 w0 (unhide B0)).mono ?_
  rintro e w1 ⟨rfl, hb1⟩
  have K1 := hide ((unhide B0).trans (hb1.mono (unhide B0).size))
  have Y1 := (unhide X2).below hb1
  have HX1 := hide ((unhide X1).below hb1)
  have HY1 := hide Y1
  have y0 := Y1.cell 0 rfl
  have y1 := Y1.cell 1 rfl
  have y2 := Y1.cell 2 rfl
  have y3 := Y1.cell 3 rfl
  have y4 := Y1.cell 4 rfl
  have y5 := Y1.cell 5 rfl
  clear hb1 Y1
  go_wp2_with fail
  refine (unhide HB2 w1 (unhide K1)).mono ?_
  rintro e w2 ⟨rfl, hb2⟩
  have K2 := hide ((unhide K1).trans (hb2.mono (unhide K1).size))
  have X3 := (unhide HX1).below hb2
  have Y3 := (unhide HY1).below hb2
  have hx3 := X3.1
  have hy3 := Y3.1
  have HX3 := hide X3
  have HY3 := hide Y3
  have u0 := X3.cell 0 rfl
  have s0 := Y3.cell 0 rfl
  have u1 := X3.cell 1 rfl
  have s1 := Y3.cell 1 rfl
  have u2 := X3.cell 2 rfl
  have s2 := Y3.cell 2 rfl
  have u3 := X3.cell 3 rfl
  have s3 := Y3.cell 3 rfl
  have u4 := X3.cell 4 rfl
  have s4 := Y3.cell 4 rfl
  have u5 := X3.cell 5 rfl
  have s5 := Y3.cell 5 rfl
  clear hb2 y0 y1 y2 y3 y4 y5 X3 Y3 HX1 HY1
  have K2d := hide (below_drewN (unhide K2) 1)
  by_cases he : strOfNums (snapL ls1 o1 ss1) = strOfNums (snapL ls2 o2 ss2)
  · have he2 := list_eq he
    have HDE := hide (decide_eq_true he)
    clear he
    go_wp2_with fail
    · skip
      go_region_law (first
        | (go_simp; go_at_call 61; refine (unhide HM2 _ k3).mono ?_; rintro e w4 ⟨v4, rfl, hO4, hb4⟩; (have hc4 := conv_own (P := Tryd.prog) 49 9 5 Tryd.underlying49 Tryd.underlying5 Tryd.underlying9 hO4.1); (have hc34 := conv_own (P := Tryd.prog) 49 9 5 Tryd.underlying49 Tryd.underlying5 Tryd.underlying9 (hO3.below hb4).1); go_simp)
        | (go_simp; go_at_call 61; refine (unhide HM1 _ (unhide K2d)).mono ?_; rintro e w3 ⟨v3, rfl, hO3, hb3⟩; (have hc3 := conv_own (P := Tryd.prog) 49 9 5 Tryd.underlying49 Tryd.underlying5 Tryd.underlying9 hO3.1); (have k3 := (unhide K2d).trans (hb3.mono (unhide K2d).size)); (have z0 := (hb3.cell (p := ⟨w.heap.size + 1, 0, none⟩) hy3).trans s0); (have z1 := (hb3.cell (p := ⟨w.heap.size + 1, 1, none⟩) hy3).trans s1); (have z2 := (hb3.cell (p := ⟨w.heap.size + 1, 2, none⟩) hy3).trans s2); (have z3 := (hb3.cell (p := ⟨w.heap.size + 1, 3, none⟩) hy3).trans s3); (have z4 := (hb3.cell (p := ⟨w.heap.size + 1, 4, none⟩) hy3).trans s4); (have z5 := (hb3.cell (p := ⟨w.heap.size + 1, 5, none⟩) hy3).trans s5); go_simp))
      all_goals
        have K4 := hide (k3.trans (hb4.mono k3.size))
        clear hc4 hc34 hc3 hO3 hO4 hb3 hb4 k3
        go_wp2_with fail
        go_ret2
        exact ⟨by rw [unhide HDE]; first | rfl | simp [he2], unhide K4⟩
  · have he2 := list_ne he
    have HDE := hide (decide_eq_false he)
    clear he
    go_wp2_with fail
    · skip
      go_region_law (first
        | (go_simp; go_at_call 61; refine (unhide HM2 _ k3).mono ?_; rintro e w4 ⟨v4, rfl, hO4, hb4⟩; (have hc4 := conv_own (P := Tryd.prog) 49 9 5 Tryd.underlying49 Tryd.underlying5 Tryd.underlying9 hO4.1); (have hc34 := conv_own (P := Tryd.prog) 49 9 5 Tryd.underlying49 Tryd.underlying5 Tryd.underlying9 (hO3.below hb4).1); go_simp)
        | (go_simp; go_at_call 61; refine (unhide HM1 _ (unhide K2d)).mono ?_; rintro e w3 ⟨v3, rfl, hO3, hb3⟩; (have hc3 := conv_own (P := Tryd.prog) 49 9 5 Tryd.underlying49 Tryd.underlying5 Tryd.underlying9 hO3.1); (have k3 := (unhide K2d).trans (hb3.mono (unhide K2d).size)); (have z0 := (hb3.cell (p := ⟨w.heap.size + 1, 0, none⟩) hy3).trans s0); (have z1 := (hb3.cell (p := ⟨w.heap.size + 1, 1, none⟩) hy3).trans s1); (have z2 := (hb3.cell (p := ⟨w.heap.size + 1, 2, none⟩) hy3).trans s2); (have z3 := (hb3.cell (p := ⟨w.heap.size + 1, 3, none⟩) hy3).trans s3); (have z4 := (hb3.cell (p := ⟨w.heap.size + 1, 4, none⟩) hy3).trans s4); (have z5 := (hb3.cell (p := ⟨w.heap.size + 1, 5, none⟩) hy3).trans s5); go_simp))
      all_goals
        have K4 := hide (k3.trans (hb4.mono k3.size))
        clear hc4 hc34 hc3 hO3 hO4 hb3 hb4 k3
        go_wp2_with fail
        go_ret2
        exact ⟨by rw [unhide HDE]; first | rfl | simp [he2], unhide K4⟩
end Go.Proofs.YtgmaappilopgbaaDoor.Sha
