/- Lists of messages: laws.markMessageS, walked. (Written by py/mgg.py.) -/
import Derived.Test.YtljolldacpkeeaaNodG
import Derived.Test.YtljolldacpkeeaaMarkJ
import Derived.Test.YtljolldacpkeeaaStM
import Derived.Deep.Cut
namespace Go.Proofs.Ytljolldacpkeeaa
open Go.ChangeShapes Go.WideShapes Go.ChangeAt Go.RowKit Go.Deep
set_option linter.unusedVariables false

/-- A message as it lies in a list. -/
structure MV where
  kd : Int
  fr : Int
  dt : Int
  tm : Int
  ix : Int
  lt : Int
  cm : Int
  ok : Bool
  es : List En
  ev : Value
def mgCells (x : MV) : List Value := [.int .i64 x.kd, .int .i64 x.fr, .int .i64 x.dt, .int .i64 x.tm, .int .i64 x.ix, .int .i64 x.lt, .int .i64 x.cm, x.ev, .bool x.ok]
def mgSubs (x : MV) : List (Value × Sub) := [(x.ev, .E x.es)]
def mgS : Sh MV := ⟨59, 9, mgCells, mgSubs, fun _ => rfl⟩
/-- How many marks a message takes. -/
def wtM (x : MV) : Nat := 8 + 3 * x.es.length
/-- A message's marks from k on. -/
def mkM (k : Nat) (x : MV) : MV :=
  { x with
    kd := (k : Int), fr := ((k + 1 : Nat) : Int), dt := ((k + 1 + 1 : Nat) : Int), tm := ((k + 1 + 1 + 1 : Nat) : Int),
    ix := ((k + 1 + 1 + 1 + 1 : Nat) : Int), lt := ((k + 1 + 1 + 1 + 1 + 1 : Nat) : Int), cm := ((k + 1 + 1 + 1 + 1 + 1 + 1 : Nat) : Int),
    es := mkEs (k + 1 + 1 + 1 + 1 + 1 + 1 + 1) x.es.length,
    ok := m3 (k + 1 + 1 + 1 + 1 + 1 + 1 + 1 + 3 * x.es.length) }
def mkMs (k : Nat) : List MV → List MV
  | [] => []
  | x :: l => mkM k x :: mkMs (k + wtM x) l
def wtMs : List MV → Nat
  | [] => 0
  | x :: l => wtM x + wtMs l
theorem mkMs_len (k : Nat) (l : List MV) : (mkMs k l).length = l.length := by
  induction l generalizing k with
  | nil => rfl
  | cons x l ih => simp [mkMs, ih]
theorem wtMs_app (l m : List MV) : wtMs (l ++ m) = wtMs l + wtMs m := by
  induction l with
  | nil => simp [wtMs]
  | cons x l ih => simp [wtMs, ih]; omega
theorem mkMs_app (k : Nat) (l m : List MV) : mkMs k (l ++ m) = mkMs k l ++ mkMs (k + wtMs l) m := by
  induction l generalizing k with
  | nil => rfl
  | cons x l ih => simp [mkMs, wtMs, ih, Nat.add_assoc]
theorem mkMs_one (k : Nat) (l m : List MV) (x : MV) : mkMs k (l ++ x :: m) = mkMs k l ++ mkM (k + wtMs l) x :: mkMs (k + wtMs l + wtM x) m := by rw [mkMs_app]; rfl
theorem wm_bound (l1 l2 : List MV) (x : MV) (l : List MV) (he : l = l1 ++ x :: l2) (hw : ∀ y ∈ l, wtM y ≤ 1000) (hl : l.length ≤ 8) : wtMs l1 ≤ 8000 ∧ wtM x ≤ 1000 := by
  have key : ∀ m : List MV, (∀ y ∈ m, wtM y ≤ 1000) → wtMs m ≤ m.length * 1000 := by
    intro m
    induction m with
    | nil => intro _; simp [wtMs]
    | cons y m ih =>
      intro h
      have h1 := h y (by simp)
      have h2 := ih (fun z hz => h z (by simp [hz]))
      simp only [wtMs, List.length_cons, Nat.add_mul, Nat.one_mul]
      omega
  subst he
  have h1 := key l1 (fun y hy => hw y (by simp [hy]))
  rw [List.length_append, List.length_cons] at hl
  have h2 : l1.length * 1000 ≤ 7 * 1000 := Nat.mul_le_mul_right _ (by omega)
  exact ⟨by omega, hw x (by simp)⟩
set_option maxRecDepth 100000 in
set_option maxHeartbeats 4000000 in
theorem markMessageS_any (c : Nat) (hc0 : 0 < c) (hc1 : c ≤ 100000) (B : Nat) (v : Value) (n : Nat) (l : List MV) (w : World) (h : Ns mgS B w v n l) (hn : n ≤ 8) (hw : ∀ x ∈ l, wtM x ≤ 1000) :
    Calls Try.prog 12 #[v, .int .i64 (c : Int)] w fun e w' => e = .returned (.int .i64 ((c + wtMs l : Nat) : Int)) ∧ Ns mgS B w' v n (mkMs c l) ∧ Touch (NsT mgS v l) w w' := by
  rcases own_shape h.row with ⟨rfl, h0⟩ | ⟨g, cap, rfl, hB, hlt0, hnn, hm⟩
  · have hl0 : l = [] := List.eq_nil_of_length_eq_zero (h.ln.trans h0)
    subst hl0 h0
    have HN := hide h
    clear h hw
    go_enter Try.func12, Try.ntmps12
    go_wp2_with fail
    go_loop [1, 5] (fun k i => k = .int .i64 (c : Int) ∧ i = .int .i64 0) (fun _ _ => 0)
    case atStart => exact ⟨rfl, rfl⟩
    case round =>
      obtain ⟨rfl, rfl⟩ := hrel
      go_wp2_with fail
      go_ret
      exact ⟨ret_int (by simp [wtMs]), unhide HN, Touch.refl _ _⟩
  have HN := hide h
  have HW := hide hw
  have HLN := hide h.ln
  clear h hw
  have HWB := hide (fun (l1 l2 : List MV) (x : MV) (he : l = l1 ++ x :: l2) => wm_bound l1 l2 x l he (unhide HW) (by rw [unhide HLN]; exact hn))
  go_enter Try.func12, Try.ntmps12
  go_wp2_with fail
  go_loopw [1, 5] (fun kv iv wr => ∃ (l1 l2 : List MV) (k j : Nat), Hid (l = l1 ++ l2) ∧ j ≤ n ∧ Hid (l1.length = j) ∧ Hid (k = c + wtMs l1) ∧ kv = .int .i64 (k : Int) ∧ iv = .int .i64 (j : Int) ∧ Hid (Ns mgS B wr (.slice (some ⟨g, 0, none⟩) n cap) n (mkMs c l1 ++ l2)) ∧ Hid (Touch (NsT mgS (.slice (some ⟨g, 0, none⟩) n cap) l) w wr)) (fun _ iv _ => n - (intOf iv).toNat)
  case atStart => exact ⟨[], l, c, 0, hide rfl, Nat.zero_le _, hide rfl, hide (by simp [wtMs]), rfl, rfl, HN, hide (Touch.refl _ _)⟩
  case round =>
    obtain ⟨l1, l2, k0, j, HL, hj, HJ, HK, rfl, rfl, N0, T0⟩ := hrel
    by_cases hlt : j < n
    case neg =>
      obtain rfl : j = n := by omega
      have hl2 : l2 = [] := by
        have h1 := unhide HLN
        rw [unhide HL, List.length_append, unhide HJ] at h1
        exact List.eq_nil_of_length_eq_zero (by omega)
      subst hl2
      have E : Hid (k0 = c + wtMs l) := hide (by rw [unhide HL, List.append_nil]; exact unhide HK)
      have N1 : Hid (Ns mgS B wr (.slice (some ⟨g, 0, none⟩) j cap) j (mkMs c l)) := hide (by have h1 := unhide N0; rw [List.append_nil] at h1; have h2 := unhide HL; rw [List.append_nil] at h2; rw [h2]; exact h1)
      clear HL HK N0
      go_wp2_with fail
      go_ret
      exact ⟨ret_int (by rw [unhide E]), unhide N1, unhide T0⟩
    obtain ⟨x, l3, rfl⟩ : ∃ x l3, l2 = x :: l3 := by
      cases l2 with
      | nil =>
        have h1 := unhide HLN
        rw [unhide HL, List.length_append, unhide HJ] at h1
        simp at h1
        omega
      | cons x l3 => exact ⟨x, l3, rfl⟩
    have HB0 := unhide HWB l1 l3 x (unhide HL)
    have hk0 : k0 ≤ 108000 ∧ 0 < k0 := by have := unhide HK; omega
    have HX := hide (rfl : mkM k0 x = mkM k0 x)
    have HM1 : Hid ((mkMs c l1).length = j) := hide ((mkMs_len c l1).trans (unhide HJ))
    have HSub := hide (fun p (hp : p ∈ mgSubs x) k (hk : p.1.ownBlock = some k) => (show NsT mgS (.slice (some ⟨g, 0, none⟩) n cap) l k from .inr ⟨p, by rw [unhide HL]; exact List.mem_flatMap.2 ⟨x, by simp, hp⟩, hk⟩))
    have hwx := HB0.2
    have p0 : (0 : Int) ≤ (j : Int) := by omega
    have p1 : (j : Int) < (n : Int) := by omega
    obtain ⟨kd, fr, dt, tm, ix, lt, cm, ok, es, ev⟩ := x
    have hln : 8 + 3 * es.length ≤ 1000 := hwx
    clear HB0 hwx HX
    obtain ⟨k1, hk1⟩ : ∃ q : Nat, q = k0 + 1 := ⟨_, rfl⟩
    have hw1 : IntKind.i64.wrap ((k0 : Nat) : Int) = ((k0 : Nat) : Int) := wrapSm _ (by omega) (by omega)
    have hv1 : IntKind.i64.wrap (((k0 : Nat) : Int) + 1) = ((k1 : Nat) : Int) := (wrapSm _ (by omega) (by omega)).trans (by omega)
    have cf := Ns.cell (unhide N0) j 0 (j * 9) (unhide HM1) (by decide) rfl
    have c0 : wr.cell? ⟨g, j * 9, none⟩ = some (.int .i64 kd) := cf.1
    have f0 := cf.2
    have N1 := hide (Ns.store (unhide N0) ⟨(k0 : Int), fr, dt, tm, ix, lt, cm, ok, es, ev⟩ j 0 (j * 9) (.int .i64 (k0 : Int)) (unhide HM1) (by decide) rfl rfl rfl)
    have T1 := hide ((unhide T0).setCell ⟨g, j * 9, none⟩ (.int .i64 (k0 : Int)) (fun _ => .inl rfl))
    have HQ1 := hide hk1
    have hb1 : k1 ≤ 108000 + 1 ∧ 0 < k1 := by omega
    clear cf hk1 N0 T0
    go_upto_region 6 with fail
    generalize wr.setCell ⟨g, j * 9, none⟩ (.int .i64 (k0 : Int)) = w1 at *
    clear c0 f0 hw1 hv1
    obtain ⟨k2, hk2⟩ : ∃ q : Nat, q = k1 + 1 := ⟨_, rfl⟩
    have hw2 : IntKind.i64.wrap ((k1 : Nat) : Int) = ((k1 : Nat) : Int) := wrapSm _ (by omega) (by omega)
    have hv2 : IntKind.i64.wrap (((k1 : Nat) : Int) + 1) = ((k2 : Nat) : Int) := (wrapSm _ (by omega) (by omega)).trans (by omega)
    have cf := Ns.cell (unhide N1) j 1 (j * 9 + 1) (unhide HM1) (by decide) rfl
    have c0 : w1.cell? ⟨g, j * 9 + 1, none⟩ = some (.int .i64 fr) := cf.1
    have f0 := cf.2
    have N2 := hide (Ns.store (unhide N1) ⟨(k0 : Int), (k1 : Int), dt, tm, ix, lt, cm, ok, es, ev⟩ j 1 (j * 9 + 1) (.int .i64 (k1 : Int)) (unhide HM1) (by decide) rfl rfl rfl)
    have T2 := hide ((unhide T1).setCell ⟨g, j * 9 + 1, none⟩ (.int .i64 (k1 : Int)) (fun _ => .inl rfl))
    have HQ2 := hide hk2
    have hb2 : k2 ≤ 108000 + 1 + 1 ∧ 0 < k2 := by omega
    clear cf hk2 N1 T1
    go_upto_region 8 with fail
    generalize w1.setCell ⟨g, j * 9 + 1, none⟩ (.int .i64 (k1 : Int)) = w2 at *
    clear c0 f0 hw2 hv2
    obtain ⟨k3, hk3⟩ : ∃ q : Nat, q = k2 + 1 := ⟨_, rfl⟩
    have hw3 : IntKind.i64.wrap ((k2 : Nat) : Int) = ((k2 : Nat) : Int) := wrapSm _ (by omega) (by omega)
    have hv3 : IntKind.i64.wrap (((k2 : Nat) : Int) + 1) = ((k3 : Nat) : Int) := (wrapSm _ (by omega) (by omega)).trans (by omega)
    have cf := Ns.cell (unhide N2) j 2 (j * 9 + 2) (unhide HM1) (by decide) rfl
    have c0 : w2.cell? ⟨g, j * 9 + 2, none⟩ = some (.int .i64 dt) := cf.1
    have f0 := cf.2
    have N3 := hide (Ns.store (unhide N2) ⟨(k0 : Int), (k1 : Int), (k2 : Int), tm, ix, lt, cm, ok, es, ev⟩ j 2 (j * 9 + 2) (.int .i64 (k2 : Int)) (unhide HM1) (by decide) rfl rfl rfl)
    have T3 := hide ((unhide T2).setCell ⟨g, j * 9 + 2, none⟩ (.int .i64 (k2 : Int)) (fun _ => .inl rfl))
    have HQ3 := hide hk3
    have hb3 : k3 ≤ 108000 + 1 + 1 + 1 ∧ 0 < k3 := by omega
    clear cf hk3 N2 T2
    go_upto_region 10 with fail
    generalize w2.setCell ⟨g, j * 9 + 2, none⟩ (.int .i64 (k2 : Int)) = w3 at *
    clear c0 f0 hw3 hv3
    obtain ⟨k4, hk4⟩ : ∃ q : Nat, q = k3 + 1 := ⟨_, rfl⟩
    have hw4 : IntKind.i64.wrap ((k3 : Nat) : Int) = ((k3 : Nat) : Int) := wrapSm _ (by omega) (by omega)
    have hv4 : IntKind.i64.wrap (((k3 : Nat) : Int) + 1) = ((k4 : Nat) : Int) := (wrapSm _ (by omega) (by omega)).trans (by omega)
    have cf := Ns.cell (unhide N3) j 3 (j * 9 + 3) (unhide HM1) (by decide) rfl
    have c0 : w3.cell? ⟨g, j * 9 + 3, none⟩ = some (.int .i64 tm) := cf.1
    have f0 := cf.2
    have N4 := hide (Ns.store (unhide N3) ⟨(k0 : Int), (k1 : Int), (k2 : Int), (k3 : Int), ix, lt, cm, ok, es, ev⟩ j 3 (j * 9 + 3) (.int .i64 (k3 : Int)) (unhide HM1) (by decide) rfl rfl rfl)
    have T4 := hide ((unhide T3).setCell ⟨g, j * 9 + 3, none⟩ (.int .i64 (k3 : Int)) (fun _ => .inl rfl))
    have HQ4 := hide hk4
    have hb4 : k4 ≤ 108000 + 1 + 1 + 1 + 1 ∧ 0 < k4 := by omega
    clear cf hk4 N3 T3
    go_upto_region 12 with fail
    generalize w3.setCell ⟨g, j * 9 + 3, none⟩ (.int .i64 (k3 : Int)) = w4 at *
    clear c0 f0 hw4 hv4
    obtain ⟨k5, hk5⟩ : ∃ q : Nat, q = k4 + 1 := ⟨_, rfl⟩
    have hw5 : IntKind.i64.wrap ((k4 : Nat) : Int) = ((k4 : Nat) : Int) := wrapSm _ (by omega) (by omega)
    have hv5 : IntKind.i64.wrap (((k4 : Nat) : Int) + 1) = ((k5 : Nat) : Int) := (wrapSm _ (by omega) (by omega)).trans (by omega)
    have cf := Ns.cell (unhide N4) j 4 (j * 9 + 4) (unhide HM1) (by decide) rfl
    have c0 : w4.cell? ⟨g, j * 9 + 4, none⟩ = some (.int .i64 ix) := cf.1
    have f0 := cf.2
    have N5 := hide (Ns.store (unhide N4) ⟨(k0 : Int), (k1 : Int), (k2 : Int), (k3 : Int), (k4 : Int), lt, cm, ok, es, ev⟩ j 4 (j * 9 + 4) (.int .i64 (k4 : Int)) (unhide HM1) (by decide) rfl rfl rfl)
    have T5 := hide ((unhide T4).setCell ⟨g, j * 9 + 4, none⟩ (.int .i64 (k4 : Int)) (fun _ => .inl rfl))
    have HQ5 := hide hk5
    have hb5 : k5 ≤ 108000 + 1 + 1 + 1 + 1 + 1 ∧ 0 < k5 := by omega
    clear cf hk5 N4 T4
    go_upto_region 14 with fail
    generalize w4.setCell ⟨g, j * 9 + 4, none⟩ (.int .i64 (k4 : Int)) = w5 at *
    clear c0 f0 hw5 hv5
    obtain ⟨k6, hk6⟩ : ∃ q : Nat, q = k5 + 1 := ⟨_, rfl⟩
    have hw6 : IntKind.i64.wrap ((k5 : Nat) : Int) = ((k5 : Nat) : Int) := wrapSm _ (by omega) (by omega)
    have hv6 : IntKind.i64.wrap (((k5 : Nat) : Int) + 1) = ((k6 : Nat) : Int) := (wrapSm _ (by omega) (by omega)).trans (by omega)
    have cf := Ns.cell (unhide N5) j 5 (j * 9 + 5) (unhide HM1) (by decide) rfl
    have c0 : w5.cell? ⟨g, j * 9 + 5, none⟩ = some (.int .i64 lt) := cf.1
    have f0 := cf.2
    have N6 := hide (Ns.store (unhide N5) ⟨(k0 : Int), (k1 : Int), (k2 : Int), (k3 : Int), (k4 : Int), (k5 : Int), cm, ok, es, ev⟩ j 5 (j * 9 + 5) (.int .i64 (k5 : Int)) (unhide HM1) (by decide) rfl rfl rfl)
    have T6 := hide ((unhide T5).setCell ⟨g, j * 9 + 5, none⟩ (.int .i64 (k5 : Int)) (fun _ => .inl rfl))
    have HQ6 := hide hk6
    have hb6 : k6 ≤ 108000 + 1 + 1 + 1 + 1 + 1 + 1 ∧ 0 < k6 := by omega
    clear cf hk6 N5 T5
    go_upto_region 16 with fail
    generalize w5.setCell ⟨g, j * 9 + 5, none⟩ (.int .i64 (k5 : Int)) = w6 at *
    clear c0 f0 hw6 hv6
    obtain ⟨k7, hk7⟩ : ∃ q : Nat, q = k6 + 1 := ⟨_, rfl⟩
    have hw7 : IntKind.i64.wrap ((k6 : Nat) : Int) = ((k6 : Nat) : Int) := wrapSm _ (by omega) (by omega)
    have hv7 : IntKind.i64.wrap (((k6 : Nat) : Int) + 1) = ((k7 : Nat) : Int) := (wrapSm _ (by omega) (by omega)).trans (by omega)
    have cf := Ns.cell (unhide N6) j 6 (j * 9 + 6) (unhide HM1) (by decide) rfl
    have c0 : w6.cell? ⟨g, j * 9 + 6, none⟩ = some (.int .i64 cm) := cf.1
    have f0 := cf.2
    have N7 := hide (Ns.store (unhide N6) ⟨(k0 : Int), (k1 : Int), (k2 : Int), (k3 : Int), (k4 : Int), (k5 : Int), (k6 : Int), ok, es, ev⟩ j 6 (j * 9 + 6) (.int .i64 (k6 : Int)) (unhide HM1) (by decide) rfl rfl rfl)
    have T7 := hide ((unhide T6).setCell ⟨g, j * 9 + 6, none⟩ (.int .i64 (k6 : Int)) (fun _ => .inl rfl))
    have HQ7 := hide hk7
    have hb7 : k7 ≤ 108000 + 1 + 1 + 1 + 1 + 1 + 1 + 1 ∧ 0 < k7 := by omega
    clear cf hk7 N6 T6
    go_upto_region 18 with fail
    generalize w6.setCell ⟨g, j * 9 + 6, none⟩ (.int .i64 (k6 : Int)) = w7 at *
    clear c0 f0 hw7 hv7
    obtain ⟨k8, hk8⟩ : ∃ q : Nat, q = k7 + 3 * es.length := ⟨_, rfl⟩
    have c0 : w7.cell? ⟨g, j * 9 + 7, none⟩ = some ev := (Ns.cell (unhide N7) j 7 (j * 9 + 7) (unhide HM1) (by decide) rfl).1
    have HC := hide (markEntryS_any k7 (by omega) (by omega) B ev es w7 ((unhide N7).sub (ev, .E es) (List.mem_flatMap.2 ⟨⟨(k0 : Int), (k1 : Int), (k2 : Int), (k3 : Int), (k4 : Int), (k5 : Int), (k6 : Int), ok, es, ev⟩, by simp, by simp [mgS, mgSubs]⟩)) (by omega))
    have he : ((k7 : Nat) : Int) + 3 * (es.length : Int) = ((k8 : Nat) : Int) := by omega
    rw [he] at HC
    clear he
    go_wp2_with fail
    clear c0
    refine (unhide HC).mono ?_
    rintro e w8 ⟨rfl, hO, hT⟩
    have N8 := hide (Ns.subset (unhide N7) ⟨(k0 : Int), (k1 : Int), (k2 : Int), (k3 : Int), (k4 : Int), (k5 : Int), (k6 : Int), ok, (mkEs k7 es.length), ev⟩ [] [] ev (.E es) (.E (mkEs k7 es.length)) rfl rfl rfl hT hO)
    have T8 := hide ((unhide T7).trans hT (fun q _ e => unhide HSub (ev, .E es) (by simp [mgSubs]) q e))
    have HQ8 := hide hk8
    have hb8 : k8 ≤ 108000 + 1 + 1 + 1 + 1 + 1 + 1 + 1 + 3 * es.length ∧ 0 < k8 := by omega
    clear hO hT HC hk8 N7 T7
    go_upto_region 19 with fail
    obtain ⟨k9, hk9⟩ : ∃ q : Nat, q = k8 + 1 := ⟨_, rfl⟩
    have hw9 : IntKind.i64.wrap ((k8 : Nat) : Int) = ((k8 : Nat) : Int) := wrapSm _ (by omega) (by omega)
    have hv9 : IntKind.i64.wrap (((k8 : Nat) : Int) + 1) = ((k9 : Nat) : Int) := (wrapSm _ (by omega) (by omega)).trans (by omega)
    have cf := Ns.cell (unhide N8) j 8 (j * 9 + 8) (unhide HM1) (by decide) rfl
    have c0 : w8.cell? ⟨g, j * 9 + 8, none⟩ = some (.bool ok) := cf.1
    have f0 := cf.2
    have N9 := hide (Ns.store (unhide N8) ⟨(k0 : Int), (k1 : Int), (k2 : Int), (k3 : Int), (k4 : Int), (k5 : Int), (k6 : Int), (m3 k8), (mkEs k7 es.length), ev⟩ j 8 (j * 9 + 8) (.bool (m3 k8)) (unhide HM1) (by decide) rfl rfl rfl)
    have T9 := hide ((unhide T8).setCell ⟨g, j * 9 + 8, none⟩ (.bool (m3 k8)) (fun _ => .inl rfl))
    have HQ9 := hide hk9
    have hb9 : k9 ≤ 108000 + 1 + 1 + 1 + 1 + 1 + 1 + 1 + 3 * es.length + 1 ∧ 0 < k9 := by omega
    clear cf hk9 N8 T8
    go_wp2_with fail
    refine ⟨⟨l1 ++ [⟨kd, fr, dt, tm, ix, lt, cm, ok, es, ev⟩], l3, k9, j + 1, hide (by rw [unhide HL]; simp), by omega, hide (by rw [List.length_append, unhide HJ]; rfl), ?_, rfl, by go_num, ?_, T9⟩, ?_⟩
    · have hk := unhide HK
      have hq1 := unhide HQ1
      have hq2 := unhide HQ2
      have hq3 := unhide HQ3
      have hq4 := unhide HQ4
      have hq5 := unhide HQ5
      have hq6 := unhide HQ6
      have hq7 := unhide HQ7
      have hq8 := unhide HQ8
      have hq9 := unhide HQ9
      exact hide (by rw [wtMs_app]; simp only [wtMs, wtM]; omega)
    · have hk := unhide HK
      have hq1 := unhide HQ1
      have hq2 := unhide HQ2
      have hq3 := unhide HQ3
      have hq4 := unhide HQ4
      have hq5 := unhide HQ5
      have hq6 := unhide HQ6
      have hq7 := unhide HQ7
      have hq8 := unhide HQ8
      have hq9 := unhide HQ9
      have hN := unhide N9
      rw [mkMs_app, List.append_assoc, ← hk]
      clear HK hk
      subst hq1 hq2 hq3 hq4 hq5 hq6 hq7 hq8
      exact hide hN
    · simp [intOf]; omega
end Go.Proofs.Ytljolldacpkeeaa
