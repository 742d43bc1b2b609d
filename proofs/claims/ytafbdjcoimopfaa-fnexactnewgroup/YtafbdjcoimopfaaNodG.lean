/- Lists of nodes: laws.markNodeS, laws.heldNodeS, walked. (Written by py/nodg.py behind the row MARK.) -/
import Derived.Test.YtafbdjcoimopfaaNest
import Derived.Test.YtafbdjcoimopfaaMarkJ
import Derived.Test.YtafbdjcoimopfaaStM
import Derived.Deep.Cut
namespace Go.Proofs.Ytafbdjcoimopfaa
open Go.ChangeShapes Go.WideShapes Go.ChangeAt Go.RowKit Go.Deep
set_option linter.unusedVariables false

/-- A node as it lies in a list. -/
structure NV where
  id : Int
  tm : Int
  vo : Int
  ro : Int
  cm : Int
  el : Int
  wt : Int
  up : Bool
  lg : List En
  st : List Int
  vs : List Int
  nx : List Int
  mt : List Int
  lv : Value
  sv : Value
  vv : Value
  nv : Value
  mv : Value
def nvCells (x : NV) : List Value := [.int .i64 x.id, .int .i64 x.tm, .int .i64 x.vo, x.lv, x.sv, .int .i64 x.ro, x.vv, x.nv, x.mv, .int .i64 x.cm, .int .i64 x.el, .int .i64 x.wt, .bool x.up]
def nvSubs (x : NV) : List (Value × Sub) := [(x.lv, .E x.lg), (x.sv, .I x.st), (x.vv, .I x.vs), (x.nv, .I x.nx), (x.mv, .I x.mt)]
def nvS : Sh NV := ⟨42, 13, nvCells, nvSubs, fun _ => rfl⟩
/-- How many marks a node takes. -/
def wtV (x : NV) : Nat := 8 + 3 * x.lg.length + x.st.length + x.vs.length + x.nx.length + x.mt.length
def m3 (k : Nat) : Bool := Int.tmod (k : Int) 3 == 0
/-- A node's marks from k on. -/
def mkV (k : Nat) (x : NV) : NV :=
  { x with
    id := (k : Int), tm := ((k + 1 : Nat) : Int), vo := ((k + 1 + 1 : Nat) : Int),
    lg := mkEs (k + 1 + 1 + 1) x.lg.length, st := marksJ (k + 1 + 1 + 1 + 3 * x.lg.length) x.st.length,
    ro := ((k + 1 + 1 + 1 + 3 * x.lg.length + x.st.length : Nat) : Int),
    vs := marksJ (k + 1 + 1 + 1 + 3 * x.lg.length + x.st.length + 1) x.vs.length,
    nx := marksJ (k + 1 + 1 + 1 + 3 * x.lg.length + x.st.length + 1 + x.vs.length) x.nx.length,
    mt := marksJ (k + 1 + 1 + 1 + 3 * x.lg.length + x.st.length + 1 + x.vs.length + x.nx.length) x.mt.length,
    cm := ((k + 1 + 1 + 1 + 3 * x.lg.length + x.st.length + 1 + x.vs.length + x.nx.length + x.mt.length : Nat) : Int),
    el := ((k + 1 + 1 + 1 + 3 * x.lg.length + x.st.length + 1 + x.vs.length + x.nx.length + x.mt.length + 1 : Nat) : Int),
    wt := ((k + 1 + 1 + 1 + 3 * x.lg.length + x.st.length + 1 + x.vs.length + x.nx.length + x.mt.length + 1 + 1 : Nat) : Int),
    up := m3 (k + 1 + 1 + 1 + 3 * x.lg.length + x.st.length + 1 + x.vs.length + x.nx.length + x.mt.length + 1 + 1 + 1) }
def mkVs (k : Nat) : List NV → List NV
  | [] => []
  | x :: l => mkV k x :: mkVs (k + wtV x) l
def wtVs : List NV → Nat
  | [] => 0
  | x :: l => wtV x + wtVs l
theorem mkVs_len (k : Nat) (l : List NV) : (mkVs k l).length = l.length := by
  induction l generalizing k with
  | nil => rfl
  | cons x l ih => simp [mkVs, ih]
theorem wtVs_app (l m : List NV) : wtVs (l ++ m) = wtVs l + wtVs m := by
  induction l with
  | nil => simp [wtVs]
  | cons x l ih => simp [wtVs, ih]; omega
theorem mkVs_app (k : Nat) (l m : List NV) : mkVs k (l ++ m) = mkVs k l ++ mkVs (k + wtVs l) m := by
  induction l generalizing k with
  | nil => rfl
  | cons x l ih => simp [mkVs, wtVs, ih, Nat.add_assoc]
theorem mkVs_one (k : Nat) (l m : List NV) (x : NV) : mkVs k (l ++ x :: m) = mkVs k l ++ mkV (k + wtVs l) x :: mkVs (k + wtVs l + wtV x) m := by rw [mkVs_app]; rfl
theorem wt_bound (l1 l2 : List NV) (x : NV) (l : List NV) (he : l = l1 ++ x :: l2) (hw : ∀ y ∈ l, wtV y ≤ 1000) (hl : l.length ≤ 8) : wtVs l1 ≤ 8000 ∧ wtV x ≤ 1000 := by
  have key : ∀ m : List NV, (∀ y ∈ m, wtV y ≤ 1000) → wtVs m ≤ m.length * 1000 := by
    intro m
    induction m with
    | nil => intro _; simp [wtVs]
    | cons y m ih =>
      intro h
      have h1 := h y (by simp)
      have h2 := ih (fun z hz => h z (by simp [hz]))
      simp only [wtVs, List.length_cons, Nat.add_mul, Nat.one_mul]
      omega
  subst he
  have h1 := key l1 (fun y hy => hw y (by simp [hy]))
  rw [List.length_append, List.length_cons] at hl
  have h2 : l1.length * 1000 ≤ 7 * 1000 := Nat.mul_le_mul_right _ (by omega)
  exact ⟨by omega, hw x (by simp)⟩
set_option maxRecDepth 100000 in
set_option maxHeartbeats 4000000 in
theorem markNodeS_any (c : Nat) (hc0 : 0 < c) (hc1 : c ≤ 100000) (B : Nat) (v : Value) (n : Nat) (l : List NV) (w : World) (h : Ns nvS B w v n l) (hn : n ≤ 8) (hw : ∀ x ∈ l, wtV x ≤ 1000) :
    Calls Try.prog 45 #[v, .int .i64 (c : Int)] w fun e w' => e = .returned (.int .i64 ((c + wtVs l : Nat) : Int)) ∧ Ns nvS B w' v n (mkVs c l) ∧ Touch (NsT nvS v l) w w' := by
  rcases own_shape h.row with ⟨rfl, h0⟩ | ⟨g, cap, rfl, hB, hlt0, hnn, hm⟩
  · have hl0 : l = [] := List.eq_nil_of_length_eq_zero (h.ln.trans h0)
    subst hl0 h0
    have HN := hide h
    clear h hw
    go_enter Try.func45, Try.ntmps45
    go_wp2_with fail
    go_loop [1, 5] (fun k i => k = .int .i64 (c : Int) ∧ i = .int .i64 0) (fun _ _ => 0)
    case atStart => exact ⟨rfl, rfl⟩
    case round =>
      obtain ⟨rfl, rfl⟩ := hrel
      go_wp2_with fail
      go_ret
      exact ⟨ret_int (by simp [wtVs]), unhide HN, Touch.refl _ _⟩
  have HN := hide h
  have HW := hide hw
  have HLN := hide h.ln
  clear h hw
  have HWB := hide (fun (l1 l2 : List NV) (x : NV) (he : l = l1 ++ x :: l2) => wt_bound l1 l2 x l he (unhide HW) (by rw [unhide HLN]; exact hn))
  go_enter Try.func45, Try.ntmps45
  go_wp2_with fail
  go_loopw [1, 5] (fun kv iv wr => ∃ (l1 l2 : List NV) (k j : Nat), Hid (l = l1 ++ l2) ∧ j ≤ n ∧ Hid (l1.length = j) ∧ Hid (k = c + wtVs l1) ∧ kv = .int .i64 (k : Int) ∧ iv = .int .i64 (j : Int) ∧ Hid (Ns nvS B wr (.slice (some ⟨g, 0, none⟩) n cap) n (mkVs c l1 ++ l2)) ∧ Hid (Touch (NsT nvS (.slice (some ⟨g, 0, none⟩) n cap) l) w wr)) (fun _ iv _ => n - (intOf iv).toNat)
  case atStart => exact ⟨[], l, c, 0, hide rfl, Nat.zero_le _, hide rfl, hide (by simp [wtVs]), rfl, rfl, HN, hide (Touch.refl _ _)⟩
  case round =>
    obtain ⟨l1, l2, k0, j, HL, hj, HJ, HK, rfl, rfl, N0, T0⟩ := hrel
    by_cases hlt : j < n
    case neg =>
      obtain rfl : j = n := by omega
      have hl2 : l2 = [] := by
        have h1 := unhide HLN
        rw [unhide HL, List.length_append, unhide HJ] at h1
        exact List.eq_nil_of_length_eq_zero (by omega)
      subst hl2
      have E : Hid (k0 = c + wtVs l) := hide (by rw [unhide HL, List.append_nil]; exact unhide HK)
      have N1 : Hid (Ns nvS B wr (.slice (some ⟨g, 0, none⟩) j cap) j (mkVs c l)) := hide (by have h1 := unhide N0; rw [List.append_nil] at h1; have h2 := unhide HL; rw [List.append_nil] at h2; rw [h2]; exact h1)
      clear HL HK N0
      go_wp2_with fail
      go_ret
      exact ⟨ret_int (by rw [unhide E]), unhide N1, unhide T0⟩
    obtain ⟨x, l3, rfl⟩ : ∃ x l3, l2 = x :: l3 := by
      cases l2 with
      | nil =>
        have h1 := unhide HLN
        rw [unhide HL, List.length_append, unhide HJ] at h1
        simp at h1
        omega
      | cons x l3 => exact ⟨x, l3, rfl⟩
    have HB0 := unhide HWB l1 l3 x (unhide HL)
    have hk0 : k0 ≤ 108000 ∧ 0 < k0 := by have := unhide HK; omega
    have HX := hide (rfl : mkV k0 x = mkV k0 x)
    have HM1 : Hid ((mkVs c l1).length = j) := hide ((mkVs_len c l1).trans (unhide HJ))
    have HSub := hide (fun p (hp : p ∈ nvSubs x) k (hk : p.1.ownBlock = some k) => (show NsT nvS (.slice (some ⟨g, 0, none⟩) n cap) l k from .inr ⟨p, by rw [unhide HL]; exact List.mem_flatMap.2 ⟨x, by simp, hp⟩, hk⟩))
    have hwx := HB0.2
    have p0 : (0 : Int) ≤ (j : Int) := by omega
    have p1 : (j : Int) < (n : Int) := by omega
    obtain ⟨id, tm, vo, ro, cm, el, wt, up, lg, st, vs, nx, mt, lv, sv, vv, nv, mv⟩ := x
    have hln : 8 + 3 * lg.length + st.length + vs.length + nx.length + mt.length ≤ 1000 := hwx
    clear HB0 hwx HX
    obtain ⟨k1, hk1⟩ : ∃ q : Nat, q = k0 + 1 := ⟨_, rfl⟩
    have hw1 : IntKind.i64.wrap ((k0 : Nat) : Int) = ((k0 : Nat) : Int) := wrapSm _ (by omega) (by omega)
    have hv1 : IntKind.i64.wrap (((k0 : Nat) : Int) + 1) = ((k1 : Nat) : Int) := (wrapSm _ (by omega) (by omega)).trans (by omega)
    have cf := Ns.cell (unhide N0) j 0 (j * 13) (unhide HM1) (by decide) rfl
    have c0 : wr.cell? ⟨g, j * 13, none⟩ = some (.int .i64 id) := cf.1
    have f0 := cf.2
    have N1 := hide (Ns.store (unhide N0) ⟨(k0 : Int), tm, vo, ro, cm, el, wt, up, lg, st, vs, nx, mt, lv, sv, vv, nv, mv⟩ j 0 (j * 13) (.int .i64 (k0 : Int)) (unhide HM1) (by decide) rfl rfl rfl)
    have T1 := hide ((unhide T0).setCell ⟨g, j * 13, none⟩ (.int .i64 (k0 : Int)) (fun _ => .inl rfl))
    have HQ1 := hide hk1
    have hb1 : k1 ≤ 108000 + 1 ∧ 0 < k1 := by omega
    clear cf hk1 N0 T0
    go_upto_region 6 with fail
    generalize wr.setCell ⟨g, j * 13, none⟩ (.int .i64 (k0 : Int)) = w1 at *
    clear c0 f0 hw1 hv1
    obtain ⟨k2, hk2⟩ : ∃ q : Nat, q = k1 + 1 := ⟨_, rfl⟩
    have hw2 : IntKind.i64.wrap ((k1 : Nat) : Int) = ((k1 : Nat) : Int) := wrapSm _ (by omega) (by omega)
    have hv2 : IntKind.i64.wrap (((k1 : Nat) : Int) + 1) = ((k2 : Nat) : Int) := (wrapSm _ (by omega) (by omega)).trans (by omega)
    have cf := Ns.cell (unhide N1) j 1 (j * 13 + 1) (unhide HM1) (by decide) rfl
    have c0 : w1.cell? ⟨g, j * 13 + 1, none⟩ = some (.int .i64 tm) := cf.1
    have f0 := cf.2
    have N2 := hide (Ns.store (unhide N1) ⟨(k0 : Int), (k1 : Int), vo, ro, cm, el, wt, up, lg, st, vs, nx, mt, lv, sv, vv, nv, mv⟩ j 1 (j * 13 + 1) (.int .i64 (k1 : Int)) (unhide HM1) (by decide) rfl rfl rfl)
    have T2 := hide ((unhide T1).setCell ⟨g, j * 13 + 1, none⟩ (.int .i64 (k1 : Int)) (fun _ => .inl rfl))
    have HQ2 := hide hk2
    have hb2 : k2 ≤ 108000 + 1 + 1 ∧ 0 < k2 := by omega
    clear cf hk2 N1 T1
    go_upto_region 8 with fail
    generalize w1.setCell ⟨g, j * 13 + 1, none⟩ (.int .i64 (k1 : Int)) = w2 at *
    clear c0 f0 hw2 hv2
    obtain ⟨k3, hk3⟩ : ∃ q : Nat, q = k2 + 1 := ⟨_, rfl⟩
    have hw3 : IntKind.i64.wrap ((k2 : Nat) : Int) = ((k2 : Nat) : Int) := wrapSm _ (by omega) (by omega)
    have hv3 : IntKind.i64.wrap (((k2 : Nat) : Int) + 1) = ((k3 : Nat) : Int) := (wrapSm _ (by omega) (by omega)).trans (by omega)
    have cf := Ns.cell (unhide N2) j 2 (j * 13 + 2) (unhide HM1) (by decide) rfl
    have c0 : w2.cell? ⟨g, j * 13 + 2, none⟩ = some (.int .i64 vo) := cf.1
    have f0 := cf.2
    have N3 := hide (Ns.store (unhide N2) ⟨(k0 : Int), (k1 : Int), (k2 : Int), ro, cm, el, wt, up, lg, st, vs, nx, mt, lv, sv, vv, nv, mv⟩ j 2 (j * 13 + 2) (.int .i64 (k2 : Int)) (unhide HM1) (by decide) rfl rfl rfl)
    have T3 := hide ((unhide T2).setCell ⟨g, j * 13 + 2, none⟩ (.int .i64 (k2 : Int)) (fun _ => .inl rfl))
    have HQ3 := hide hk3
    have hb3 : k3 ≤ 108000 + 1 + 1 + 1 ∧ 0 < k3 := by omega
    clear cf hk3 N2 T2
    go_upto_region 10 with fail
    generalize w2.setCell ⟨g, j * 13 + 2, none⟩ (.int .i64 (k2 : Int)) = w3 at *
    clear c0 f0 hw3 hv3
    obtain ⟨k4, hk4⟩ : ∃ q : Nat, q = k3 + 3 * lg.length := ⟨_, rfl⟩
    have c0 : w3.cell? ⟨g, j * 13 + 3, none⟩ = some lv := (Ns.cell (unhide N3) j 3 (j * 13 + 3) (unhide HM1) (by decide) rfl).1
    have HC := hide (markEntryS_any k3 (by omega) (by omega) B lv lg w3 ((unhide N3).sub (lv, .E lg) (List.mem_flatMap.2 ⟨⟨(k0 : Int), (k1 : Int), (k2 : Int), ro, cm, el, wt, up, lg, st, vs, nx, mt, lv, sv, vv, nv, mv⟩, by simp, by simp [nvS, nvSubs]⟩)) (by omega))
    have he : ((k3 : Nat) : Int) + 3 * (lg.length : Int) = ((k4 : Nat) : Int) := by omega
    rw [he] at HC
    clear he
    go_wp2_with fail
    clear c0
    refine (unhide HC).mono ?_
    rintro e w4 ⟨rfl, hO, hT⟩
    have N4 := hide (Ns.subset (unhide N3) ⟨(k0 : Int), (k1 : Int), (k2 : Int), ro, cm, el, wt, up, (mkEs k3 lg.length), st, vs, nx, mt, lv, sv, vv, nv, mv⟩ [] [(sv, .I st), (vv, .I vs), (nv, .I nx), (mv, .I mt)] lv (.E lg) (.E (mkEs k3 lg.length)) rfl rfl rfl hT hO)
    have T4 := hide ((unhide T3).trans hT (fun q _ e => unhide HSub (lv, .E lg) (by simp [nvSubs]) q e))
    have HQ4 := hide hk4
    have hb4 : k4 ≤ 108000 + 1 + 1 + 1 + 3 * lg.length ∧ 0 < k4 := by omega
    clear hO hT HC hk4 N3 T3
    go_upto_region 11 with fail
    obtain ⟨k5, hk5⟩ : ∃ q : Nat, q = k4 + st.length := ⟨_, rfl⟩
    have c0 : w4.cell? ⟨g, j * 13 + 4, none⟩ = some sv := (Ns.cell (unhide N4) j 4 (j * 13 + 4) (unhide HM1) (by decide) rfl).1
    have HC := hide (markIntS_at k4 (by omega) (by omega) B sv st w4 ((unhide N4).sub (sv, .I st) (List.mem_flatMap.2 ⟨⟨(k0 : Int), (k1 : Int), (k2 : Int), ro, cm, el, wt, up, (mkEs k3 lg.length), st, vs, nx, mt, lv, sv, vv, nv, mv⟩, by simp, by simp [nvS, nvSubs]⟩)) (by omega))
    have he : ((k4 : Nat) : Int) + (st.length : Int) = ((k5 : Nat) : Int) := by omega
    rw [he] at HC
    clear he
    go_wp2_with fail
    clear c0
    refine (unhide HC).mono ?_
    rintro e w5 ⟨rfl, hO, hT⟩
    have N5 := hide (Ns.subset (unhide N4) ⟨(k0 : Int), (k1 : Int), (k2 : Int), ro, cm, el, wt, up, (mkEs k3 lg.length), (marksJ k4 st.length), vs, nx, mt, lv, sv, vv, nv, mv⟩ [(lv, .E (mkEs k3 lg.length))] [(vv, .I vs), (nv, .I nx), (mv, .I mt)] sv (.I st) (.I (marksJ k4 st.length)) rfl rfl rfl hT hO)
    have T5 := hide ((unhide T4).trans hT (fun q _ e => unhide HSub (sv, .I st) (by simp [nvSubs]) q e))
    have HQ5 := hide hk5
    have hb5 : k5 ≤ 108000 + 1 + 1 + 1 + 3 * lg.length + st.length ∧ 0 < k5 := by omega
    clear hO hT HC hk5 N4 T4
    go_upto_region 12 with fail
    obtain ⟨k6, hk6⟩ : ∃ q : Nat, q = k5 + 1 := ⟨_, rfl⟩
    have hw6 : IntKind.i64.wrap ((k5 : Nat) : Int) = ((k5 : Nat) : Int) := wrapSm _ (by omega) (by omega)
    have hv6 : IntKind.i64.wrap (((k5 : Nat) : Int) + 1) = ((k6 : Nat) : Int) := (wrapSm _ (by omega) (by omega)).trans (by omega)
    have cf := Ns.cell (unhide N5) j 5 (j * 13 + 5) (unhide HM1) (by decide) rfl
    have c0 : w5.cell? ⟨g, j * 13 + 5, none⟩ = some (.int .i64 ro) := cf.1
    have f0 := cf.2
    have N6 := hide (Ns.store (unhide N5) ⟨(k0 : Int), (k1 : Int), (k2 : Int), (k5 : Int), cm, el, wt, up, (mkEs k3 lg.length), (marksJ k4 st.length), vs, nx, mt, lv, sv, vv, nv, mv⟩ j 5 (j * 13 + 5) (.int .i64 (k5 : Int)) (unhide HM1) (by decide) rfl rfl rfl)
    have T6 := hide ((unhide T5).setCell ⟨g, j * 13 + 5, none⟩ (.int .i64 (k5 : Int)) (fun _ => .inl rfl))
    have HQ6 := hide hk6
    have hb6 : k6 ≤ 108000 + 1 + 1 + 1 + 3 * lg.length + st.length + 1 ∧ 0 < k6 := by omega
    clear cf hk6 N5 T5
    go_upto_region 14 with fail
    generalize w5.setCell ⟨g, j * 13 + 5, none⟩ (.int .i64 (k5 : Int)) = w6 at *
    clear c0 f0 hw6 hv6
    obtain ⟨k7, hk7⟩ : ∃ q : Nat, q = k6 + vs.length := ⟨_, rfl⟩
    have c0 : w6.cell? ⟨g, j * 13 + 6, none⟩ = some vv := (Ns.cell (unhide N6) j 6 (j * 13 + 6) (unhide HM1) (by decide) rfl).1
    have HC := hide (markIntS_at k6 (by omega) (by omega) B vv vs w6 ((unhide N6).sub (vv, .I vs) (List.mem_flatMap.2 ⟨⟨(k0 : Int), (k1 : Int), (k2 : Int), (k5 : Int), cm, el, wt, up, (mkEs k3 lg.length), (marksJ k4 st.length), vs, nx, mt, lv, sv, vv, nv, mv⟩, by simp, by simp [nvS, nvSubs]⟩)) (by omega))
    have he : ((k6 : Nat) : Int) + (vs.length : Int) = ((k7 : Nat) : Int) := by omega
    rw [he] at HC
    clear he
    go_wp2_with fail
    clear c0
    refine (unhide HC).mono ?_
    rintro e w7 ⟨rfl, hO, hT⟩
    have N7 := hide (Ns.subset (unhide N6) ⟨(k0 : Int), (k1 : Int), (k2 : Int), (k5 : Int), cm, el, wt, up, (mkEs k3 lg.length), (marksJ k4 st.length), (marksJ k6 vs.length), nx, mt, lv, sv, vv, nv, mv⟩ [(lv, .E (mkEs k3 lg.length)), (sv, .I (marksJ k4 st.length))] [(nv, .I nx), (mv, .I mt)] vv (.I vs) (.I (marksJ k6 vs.length)) rfl rfl rfl hT hO)
    have T7 := hide ((unhide T6).trans hT (fun q _ e => unhide HSub (vv, .I vs) (by simp [nvSubs]) q e))
    have HQ7 := hide hk7
    have hb7 : k7 ≤ 108000 + 1 + 1 + 1 + 3 * lg.length + st.length + 1 + vs.length ∧ 0 < k7 := by omega
    clear hO hT HC hk7 N6 T6
    go_upto_region 15 with fail
    obtain ⟨k8, hk8⟩ : ∃ q : Nat, q = k7 + nx.length := ⟨_, rfl⟩
    have c0 : w7.cell? ⟨g, j * 13 + 7, none⟩ = some nv := (Ns.cell (unhide N7) j 7 (j * 13 + 7) (unhide HM1) (by decide) rfl).1
    have HC := hide (markIntS_at k7 (by omega) (by omega) B nv nx w7 ((unhide N7).sub (nv, .I nx) (List.mem_flatMap.2 ⟨⟨(k0 : Int), (k1 : Int), (k2 : Int), (k5 : Int), cm, el, wt, up, (mkEs k3 lg.length), (marksJ k4 st.length), (marksJ k6 vs.length), nx, mt, lv, sv, vv, nv, mv⟩, by simp, by simp [nvS, nvSubs]⟩)) (by omega))
    have he : ((k7 : Nat) : Int) + (nx.length : Int) = ((k8 : Nat) : Int) := by omega
    rw [he] at HC
    clear he
    go_wp2_with fail
    clear c0
    refine (unhide HC).mono ?_
    rintro e w8 ⟨rfl, hO, hT⟩
    have N8 := hide (Ns.subset (unhide N7) ⟨(k0 : Int), (k1 : Int), (k2 : Int), (k5 : Int), cm, el, wt, up, (mkEs k3 lg.length), (marksJ k4 st.length), (marksJ k6 vs.length), (marksJ k7 nx.length), mt, lv, sv, vv, nv, mv⟩ [(lv, .E (mkEs k3 lg.length)), (sv, .I (marksJ k4 st.length)), (vv, .I (marksJ k6 vs.length))] [(mv, .I mt)] nv (.I nx) (.I (marksJ k7 nx.length)) rfl rfl rfl hT hO)
    have T8 := hide ((unhide T7).trans hT (fun q _ e => unhide HSub (nv, .I nx) (by simp [nvSubs]) q e))
    have HQ8 := hide hk8
    have hb8 : k8 ≤ 108000 + 1 + 1 + 1 + 3 * lg.length + st.length + 1 + vs.length + nx.length ∧ 0 < k8 := by omega
    clear hO hT HC hk8 N7 T7
    go_upto_region 16 with fail
    obtain ⟨k9, hk9⟩ : ∃ q : Nat, q = k8 + mt.length := ⟨_, rfl⟩
    have c0 : w8.cell? ⟨g, j * 13 + 8, none⟩ = some mv := (Ns.cell (unhide N8) j 8 (j * 13 + 8) (unhide HM1) (by decide) rfl).1
    have HC := hide (markIntS_at k8 (by omega) (by omega) B mv mt w8 ((unhide N8).sub (mv, .I mt) (List.mem_flatMap.2 ⟨⟨(k0 : Int), (k1 : Int), (k2 : Int), (k5 : Int), cm, el, wt, up, (mkEs k3 lg.length), (marksJ k4 st.length), (marksJ k6 vs.length), (marksJ k7 nx.length), mt, lv, sv, vv, nv, mv⟩, by simp, by simp [nvS, nvSubs]⟩)) (by omega))
    have he : ((k8 : Nat) : Int) + (mt.length : Int) = ((k9 : Nat) : Int) := by omega
    rw [he] at HC
    clear he
    go_wp2_with fail
    clear c0
    refine (unhide HC).mono ?_
    rintro e w9 ⟨rfl, hO, hT⟩
    have N9 := hide (Ns.subset (unhide N8) ⟨(k0 : Int), (k1 : Int), (k2 : Int), (k5 : Int), cm, el, wt, up, (mkEs k3 lg.length), (marksJ k4 st.length), (marksJ k6 vs.length), (marksJ k7 nx.length), (marksJ k8 mt.length), lv, sv, vv, nv, mv⟩ [(lv, .E (mkEs k3 lg.length)), (sv, .I (marksJ k4 st.length)), (vv, .I (marksJ k6 vs.length)), (nv, .I (marksJ k7 nx.length))] [] mv (.I mt) (.I (marksJ k8 mt.length)) rfl rfl rfl hT hO)
    have T9 := hide ((unhide T8).trans hT (fun q _ e => unhide HSub (mv, .I mt) (by simp [nvSubs]) q e))
    have HQ9 := hide hk9
    have hb9 : k9 ≤ 108000 + 1 + 1 + 1 + 3 * lg.length + st.length + 1 + vs.length + nx.length + mt.length ∧ 0 < k9 := by omega
    clear hO hT HC hk9 N8 T8
    go_upto_region 17 with fail
    obtain ⟨k10, hk10⟩ : ∃ q : Nat, q = k9 + 1 := ⟨_, rfl⟩
    have hw10 : IntKind.i64.wrap ((k9 : Nat) : Int) = ((k9 : Nat) : Int) := wrapSm _ (by omega) (by omega)
    have hv10 : IntKind.i64.wrap (((k9 : Nat) : Int) + 1) = ((k10 : Nat) : Int) := (wrapSm _ (by omega) (by omega)).trans (by omega)
    have cf := Ns.cell (unhide N9) j 9 (j * 13 + 9) (unhide HM1) (by decide) rfl
    have c0 : w9.cell? ⟨g, j * 13 + 9, none⟩ = some (.int .i64 cm) := cf.1
    have f0 := cf.2
    have N10 := hide (Ns.store (unhide N9) ⟨(k0 : Int), (k1 : Int), (k2 : Int), (k5 : Int), (k9 : Int), el, wt, up, (mkEs k3 lg.length), (marksJ k4 st.length), (marksJ k6 vs.length), (marksJ k7 nx.length), (marksJ k8 mt.length), lv, sv, vv, nv, mv⟩ j 9 (j * 13 + 9) (.int .i64 (k9 : Int)) (unhide HM1) (by decide) rfl rfl rfl)
    have T10 := hide ((unhide T9).setCell ⟨g, j * 13 + 9, none⟩ (.int .i64 (k9 : Int)) (fun _ => .inl rfl))
    have HQ10 := hide hk10
    have hb10 : k10 ≤ 108000 + 1 + 1 + 1 + 3 * lg.length + st.length + 1 + vs.length + nx.length + mt.length + 1 ∧ 0 < k10 := by omega
    clear cf hk10 N9 T9
    go_upto_region 19 with fail
    generalize w9.setCell ⟨g, j * 13 + 9, none⟩ (.int .i64 (k9 : Int)) = w10 at *
    clear c0 f0 hw10 hv10
    obtain ⟨k11, hk11⟩ : ∃ q : Nat, q = k10 + 1 := ⟨_, rfl⟩
    have hw11 : IntKind.i64.wrap ((k10 : Nat) : Int) = ((k10 : Nat) : Int) := wrapSm _ (by omega) (by omega)
    have hv11 : IntKind.i64.wrap (((k10 : Nat) : Int) + 1) = ((k11 : Nat) : Int) := (wrapSm _ (by omega) (by omega)).trans (by omega)
    have cf := Ns.cell (unhide N10) j 10 (j * 13 + 10) (unhide HM1) (by decide) rfl
    have c0 : w10.cell? ⟨g, j * 13 + 10, none⟩ = some (.int .i64 el) := cf.1
    have f0 := cf.2
    have N11 := hide (Ns.store (unhide N10) ⟨(k0 : Int), (k1 : Int), (k2 : Int), (k5 : Int), (k9 : Int), (k10 : Int), wt, up, (mkEs k3 lg.length), (marksJ k4 st.length), (marksJ k6 vs.length), (marksJ k7 nx.length), (marksJ k8 mt.length), lv, sv, vv, nv, mv⟩ j 10 (j * 13 + 10) (.int .i64 (k10 : Int)) (unhide HM1) (by decide) rfl rfl rfl)
    have T11 := hide ((unhide T10).setCell ⟨g, j * 13 + 10, none⟩ (.int .i64 (k10 : Int)) (fun _ => .inl rfl))
    have HQ11 := hide hk11
    have hb11 : k11 ≤ 108000 + 1 + 1 + 1 + 3 * lg.length + st.length + 1 + vs.length + nx.length + mt.length + 1 + 1 ∧ 0 < k11 := by omega
    clear cf hk11 N10 T10
    go_upto_region 21 with fail
    generalize w10.setCell ⟨g, j * 13 + 10, none⟩ (.int .i64 (k10 : Int)) = w11 at *
    clear c0 f0 hw11 hv11
    obtain ⟨k12, hk12⟩ : ∃ q : Nat, q = k11 + 1 := ⟨_, rfl⟩
    have hw12 : IntKind.i64.wrap ((k11 : Nat) : Int) = ((k11 : Nat) : Int) := wrapSm _ (by omega) (by omega)
    have hv12 : IntKind.i64.wrap (((k11 : Nat) : Int) + 1) = ((k12 : Nat) : Int) := (wrapSm _ (by omega) (by omega)).trans (by omega)
    have cf := Ns.cell (unhide N11) j 11 (j * 13 + 11) (unhide HM1) (by decide) rfl
    have c0 : w11.cell? ⟨g, j * 13 + 11, none⟩ = some (.int .i64 wt) := cf.1
    have f0 := cf.2
    have N12 := hide (Ns.store (unhide N11) ⟨(k0 : Int), (k1 : Int), (k2 : Int), (k5 : Int), (k9 : Int), (k10 : Int), (k11 : Int), up, (mkEs k3 lg.length), (marksJ k4 st.length), (marksJ k6 vs.length), (marksJ k7 nx.length), (marksJ k8 mt.length), lv, sv, vv, nv, mv⟩ j 11 (j * 13 + 11) (.int .i64 (k11 : Int)) (unhide HM1) (by decide) rfl rfl rfl)
    have T12 := hide ((unhide T11).setCell ⟨g, j * 13 + 11, none⟩ (.int .i64 (k11 : Int)) (fun _ => .inl rfl))
    have HQ12 := hide hk12
    have hb12 : k12 ≤ 108000 + 1 + 1 + 1 + 3 * lg.length + st.length + 1 + vs.length + nx.length + mt.length + 1 + 1 + 1 ∧ 0 < k12 := by omega
    clear cf hk12 N11 T11
    go_upto_region 23 with fail
    generalize w11.setCell ⟨g, j * 13 + 11, none⟩ (.int .i64 (k11 : Int)) = w12 at *
    clear c0 f0 hw12 hv12
    obtain ⟨k13, hk13⟩ : ∃ q : Nat, q = k12 + 1 := ⟨_, rfl⟩
    have hw13 : IntKind.i64.wrap ((k12 : Nat) : Int) = ((k12 : Nat) : Int) := wrapSm _ (by omega) (by omega)
    have hv13 : IntKind.i64.wrap (((k12 : Nat) : Int) + 1) = ((k13 : Nat) : Int) := (wrapSm _ (by omega) (by omega)).trans (by omega)
    have cf := Ns.cell (unhide N12) j 12 (j * 13 + 12) (unhide HM1) (by decide) rfl
    have c0 : w12.cell? ⟨g, j * 13 + 12, none⟩ = some (.bool up) := cf.1
    have f0 := cf.2
    have N13 := hide (Ns.store (unhide N12) ⟨(k0 : Int), (k1 : Int), (k2 : Int), (k5 : Int), (k9 : Int), (k10 : Int), (k11 : Int), (m3 k12), (mkEs k3 lg.length), (marksJ k4 st.length), (marksJ k6 vs.length), (marksJ k7 nx.length), (marksJ k8 mt.length), lv, sv, vv, nv, mv⟩ j 12 (j * 13 + 12) (.bool (m3 k12)) (unhide HM1) (by decide) rfl rfl rfl)
    have T13 := hide ((unhide T12).setCell ⟨g, j * 13 + 12, none⟩ (.bool (m3 k12)) (fun _ => .inl rfl))
    have HQ13 := hide hk13
    have hb13 : k13 ≤ 108000 + 1 + 1 + 1 + 3 * lg.length + st.length + 1 + vs.length + nx.length + mt.length + 1 + 1 + 1 + 1 ∧ 0 < k13 := by omega
    clear cf hk13 N12 T12
    go_wp2_with fail
    refine ⟨⟨l1 ++ [⟨id, tm, vo, ro, cm, el, wt, up, lg, st, vs, nx, mt, lv, sv, vv, nv, mv⟩], l3, k13, j + 1, hide (by rw [unhide HL]; simp), by omega, hide (by rw [List.length_append, unhide HJ]; rfl), ?_, rfl, by go_num, ?_, T13⟩, ?_⟩
    · have hk := unhide HK
      have hq1 := unhide HQ1
      have hq2 := unhide HQ2
      have hq3 := unhide HQ3
      have hq4 := unhide HQ4
      have hq5 := unhide HQ5
      have hq6 := unhide HQ6
      have hq7 := unhide HQ7
      have hq8 := unhide HQ8
      have hq9 := unhide HQ9
      have hq10 := unhide HQ10
      have hq11 := unhide HQ11
      have hq12 := unhide HQ12
      have hq13 := unhide HQ13
      exact hide (by rw [wtVs_app]; simp only [wtVs, wtV]; omega)
    · have hk := unhide HK
      have hq1 := unhide HQ1
      have hq2 := unhide HQ2
      have hq3 := unhide HQ3
      have hq4 := unhide HQ4
      have hq5 := unhide HQ5
      have hq6 := unhide HQ6
      have hq7 := unhide HQ7
      have hq8 := unhide HQ8
      have hq9 := unhide HQ9
      have hq10 := unhide HQ10
      have hq11 := unhide HQ11
      have hq12 := unhide HQ12
      have hq13 := unhide HQ13
      have hN := unhide N13
      rw [mkVs_app, List.append_assoc, ← hk]
      clear HK hk
      subst hq1 hq2 hq3 hq4 hq5 hq6 hq7 hq8 hq9 hq10 hq11 hq12
      exact hide hN
    · simp [intOf]; omega
end Go.Proofs.Ytafbdjcoimopfaa
