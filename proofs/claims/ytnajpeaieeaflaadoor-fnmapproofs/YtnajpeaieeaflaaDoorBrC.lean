/- The specification's count of leaves: l07Count; spec.MapOK. -/
import Derived.Test.YtnajpeaieeaflaaDoorBrS
import Derived.Deep.DeepCutAuto
import Derived.Deep.RegionHeldLaw
namespace Go.Proofs.YtnajpeaieeaflaaDoor.Sha
open Go.ChangeShapes Go.WideShapes Go.ChangeAt Go.RowKit
set_option linter.unusedVariables false
set_option linter.unusedSimpArgs false

theorem cv_leaf' {k v : ByteArray} {a least left : Int} {ks : List Br} {pl : List Int} (hk : ks.length = 0) (h1 : 1 ≤ left) :
    cv (.mk k v a ks) least pl left = if okK k = true ∧ v.size ≤ 60 ∧ a = 256 ∧ bitL (kh k) pl.length = pl then 1 else -1 := by
  obtain rfl := List.eq_nil_of_length_eq_zero hk
  exact cv_leaf h1
theorem conv_one (w : World) (x : Int) : (convert 22 9 (.slice (some ⟨w.heap.size, 0, none⟩) 1 1)).run Tryd.prog (w.alloc (.cells #[.int .u8 x] 5)) = .ok (.string (strOfNums [x])) (w.alloc (.cells #[.int .u8 x] 5)) :=
  run_convert_bytes_arg (P := Tryd.prog) _ 22 5 Tryd.underlying22 Tryd.underlying5 w.heap.size 0 1 1 [x] rfl (fun i hi => by
    rw [World.cell?_alloc_at _ _ _ _ rfl]
    match i, hi with
    | 0, _ => rfl) 9 Tryd.underlying9
theorem list_ne {a b : ByteArray} (h : a ≠ b) : (a.toList == b.toList) = false := by
  rw [beq_eq_false_iff_ne]
  intro e
  rw [ByteArray.toList_eq, ByteArray.toList_eq] at e
  exact h (ByteArray.ext (Array.toList_inj.1 e))
theorem list_eq {a b : ByteArray} (h : a = b) : (a.toList == b.toList) = true := by rw [h]; simp
set_option maxRecDepth 100000 in
set_option maxHeartbeats 4000000 in
theorem count_any : ∀ (n : Nat) (b : Br), SizeOf.sizeOf b ≤ n → ∀ (S : Nat → Prop) (least : Int) (pl : List Int) (left : Int) (kv : Value) (w : World), Brs S w kv b.kids → b.key.size ≤ maxLen → b.val.size ≤ maxLen → 0 ≤ least → least ≤ 256 → (pl.length : Int) ≤ least → Bits01 pl → 0 ≤ left → left ≤ 40 →
    Calls Tryd.prog 59 #[.agg #[.string b.key, .string b.val, .int .i64 b.at_, kv], .int .i64 least, .string (strOfNums pl), .int .i64 left] w fun e w' => e = .returned (.int .i64 (cv b least pl left)) ∧ Below w.heap.size w w' := by
  intro n
  induction n with
  | zero => intro b hb; exact absurd hb (by cases b; simp only [Br.mk.sizeOf_spec]; omega)
  | succ n ih =>
    intro b hsz S least pl left kv w hB hk hv hl0 hl1 hpl h01 hf0 hf1
    obtain ⟨k, v, a, ks⟩ := b
    simp only [Br.key, Br.val, Br.at_, Br.kids] at *
    obtain ⟨sa, cap, rfl, hcap, hcm⟩ := hB.shape
    have X0 := hide (Blk.new w #[.string k, .string v, .int .i64 a, .slice sa ks.length cap] 25 w.heap.size rfl)
    have B0 := hide ((Below.refl w.heap.size w).alloc (Nat.le_refl _) (.cells #[.string k, .string v, .int .i64 a, .slice sa ks.length cap] 25))
    have HBR := hide (hB.blw (unhide B0))
    have hz1 : w.heap.size < (w.alloc (.cells #[.string k, .string v, .int .i64 a, .slice sa ks.length cap] 25)).heap.size := by simp
    have hlm : ks.length ≤ 9223372036854775807 := by unfold maxLen at hcm; omega
    have HIH := hide ih
    have HSZ := hide hsz
    have HKV := hide (And.intro hk hv)
    have H01 := hide h01
    have hps : (strOfNums pl).size = pl.length := strOfNums_size pl
    clear hB ih hsz h01
    have hvl : v.size ≤ 9223372036854775807 := by unfold maxLen at hv; omega
    by_cases hlf : left < 1
    · have HC := hide (cv_zero (.mk k v a ks) least pl left hl0 hlf)
      clear hk hv
      go_enter Tryd.func59, Tryd.ntmps59
      go_wp2_with fail
      go_ret
      exact ⟨ret_int (unhide HC).symm, unhide B0⟩
    have HLF := hide (fun wx => l07Leaf_any k v a sa ks.length cap wx (by omega))
    have hpl256 : (pl.length : Int) ≤ 256 := by omega
    by_cases hks : ks.length = 0
    · have HCV := hide (cv_leaf' (k := k) (v := v) (a := a) (least := least) (left := left) (ks := ks) (pl := pl) hks (by omega))
      rw [decide_eq_true hks] at HLF
      have HKY := hide (fun wx => l02Keyb_any k wx hk)
      have HOK := hide (okK_iff (k := k))
      have HHS := hide (fun wx (h : k.size ≤ 24) => l07Hash_any k wx (by omega))
      have HKS := hide (fun (h : k.size ≤ 24) => kh_size (k := k) (by omega))
      generalize cv (.mk k v a ks) least pl left = cvv at *
      generalize okK k = ok at *
      clear hk hv HBR HIH HSZ HKV hks
      go_enter Tryd.func59, Tryd.ntmps59
      go_wp2_with fail
      generalize w.alloc (.cells #[.string k, .string v, .int .i64 a, .slice sa ks.length cap] 25) = w1 at *
      have x0 := (unhide X0).cell 0 rfl
      have x1 := (unhide X0).cell 1 rfl
      have x2 := (unhide X0).cell 2 rfl
      refine (unhide HLF w1).mono ?_
      rintro e w2 ⟨rfl, hb2⟩
      have B2 := hide ((unhide B0).trans (hb2.mono (Nat.le_of_lt hz1)))
      have X2 := hide ((unhide X0).below hb2)
      have y0 := (unhide X2).cell 0 rfl
      have y1 := (unhide X2).cell 1 rfl
      have y2 := (unhide X2).cell 2 rfl
      clear x0 x1 x2 hb2 X0 B0 HLF
      go_wp2_with fail
      refine (unhide HKY w2).mono ?_
      rintro e w9 ⟨rfl, hw9⟩
      subst w9
      cases ok
      · have H := hide ((unhide HCV).trans (if_neg (by simp)))
        go_wp2_with fail
        go_ret
        exact ⟨ret_int (unhide H).symm, unhide B2⟩
      have hk24 := ((unhide HOK).1 rfl).2
      by_cases hv60 : 60 < v.size
      · have H := hide ((unhide HCV).trans (if_neg (by omega)))
        have h1 : (60 : Int) < (v.size : Int) := by omega
        go_wp2_with fail
        go_ret
        exact ⟨ret_int (unhide H).symm, unhide B2⟩
      have hv61 : ¬ (60 : Int) < (v.size : Int) := by omega
      by_cases ha : a = 256
      case neg =>
        have H := hide ((unhide HCV).trans (if_neg (fun h => ha h.2.2.1)))
        have hab : (a != 256) = true := by simpa using ha
        clear ha
        go_wp2_with fail
        go_ret
        exact ⟨ret_int (unhide H).symm, unhide B2⟩
      have hab : (a != 256) = false := by simpa using ha
      have HA := hide ha
      clear ha
      have HH2 := hide (unhide HHS w2 hk24)
      have hk32 := unhide HKS hk24
      have HB3 := hide (fun wx => l01Bits_any (kh k) wx (by omega))
      rw [hk32] at HB3
      have hbz : (strOfNums (bitL (kh k) (8 * 32))).size = 256 := by rw [strOfNums_size, bitL_len]
      have hex : (strOfNums (bitL (kh k) (8 * 32))).extract 0 pl.length = strOfNums (bitL (kh k) pl.length) := by rw [str_take, bitL_take _ _ _ (by omega)]
      have HSI : Hid (strOfNums (bitL (kh k) pl.length) = strOfNums pl ↔ bitL (kh k) pl.length = pl) := hide ⟨fun h => str01 (bitL_01 _ _) (unhide H01) h, fun h => by rw [h]⟩
      clear HHS HKS hk32
      have HCV2 : Hid (cvv = if bitL (kh k) pl.length = pl then 1 else -1) := hide (by
        rw [unhide HCV]
        by_cases hq : bitL (kh k) pl.length = pl
        · rw [if_pos hq, if_pos ⟨rfl, by omega, unhide HA, hq⟩]
        · rw [if_neg hq, if_neg (fun h => hq h.2.2.2)])
      clear HCV
      generalize hsb : strOfNums (bitL (kh k) (8 * 32)) = sb at *
      generalize kh k = hk0 at *
      generalize strOfNums (bitL hk0 pl.length) = sx at *
      clear hsb
      go_wp2_with fail
      refine (unhide HH2).mono ?_
      rintro e w3 ⟨rfl, hb3⟩
      have B3 := hide ((unhide B2).trans (hb3.mono (unhide B2).size))
      clear hb3 y0 y1 y2 X2
      go_wp2_with fail
      refine (unhide HB3 w3).mono ?_
      rintro e w4 ⟨rfl, hb4⟩
      have B4 := hide ((unhide B3).trans (hb4.mono (unhide B3).size))
      clear hb4
      generalize strOfNums pl = sp at *
      by_cases hq : sx = sp
      · have H := hide ((unhide HCV2).trans (if_pos ((unhide HSI).1 hq)))
        have hqb := list_eq hq
        clear hq
        go_wp2_with fail
        go_ret
        exact ⟨ret_int (unhide H).symm, unhide B4⟩
      · have H := hide ((unhide HCV2).trans (if_neg (fun h => hq ((unhide HSI).2 h))))
        have hqb := list_ne hq
        clear hq
        go_wp2_with fail
        go_ret
        exact ⟨ret_int (unhide H).symm, unhide B4⟩
    have HNO := hide (fun (h : ¬ (least ≤ a ∧ a ≤ 255 ∧ ks.length = 2 ∧ k.size = 0 ∧ v.size = 0)) => cv_no (pl := pl) (left := left) (least := least) (k := k) (v := v) (a := a) (ks := ks) hks h)
    rw [decide_eq_false hks] at HLF
    have HI := hide (inB_iff (n := a) (lo := least) (hi := 255))
    have HW := hide (fun wx => l01In_any a least 255 wx)
    generalize inB a least 255 = b1 at *
    clear hk hv HKV
    go_enter Tryd.func59, Tryd.ntmps59
    go_wp2_with fail
    generalize w.alloc (.cells #[.string k, .string v, .int .i64 a, .slice sa ks.length cap] 25) = w1 at *
    have x3 := (unhide X0).cell 3 rfl
    refine (unhide HLF w1).mono ?_
    rintro e w2 ⟨rfl, hb2⟩
    have B2 := hide ((unhide B0).trans (hb2.mono (Nat.le_of_lt hz1)))
    have X2 := hide ((unhide X0).below hb2)
    have HBR2 := hide ((unhide HBR).blw hb2)
    have y0 := (unhide X2).cell 0 rfl
    have y1 := (unhide X2).cell 1 rfl
    have y2 := (unhide X2).cell 2 rfl
    have y3 := (unhide X2).cell 3 rfl
    clear x3 hb2 X0 B0 HLF HBR
    by_cases h2 : ks.length = 2
    case neg =>
      have H := hide (unhide HNO (fun h => h2 h.2.2.1))
      have h2b : ((ks.length : Int) != 2) = true := by simp; omega
      clear h2
      go_wp2_with fail
      go_ret
      exact ⟨ret_int (unhide H).symm, unhide B2⟩
    have h2b : ((ks.length : Int) != 2) = false := by simp; omega
    by_cases hk0 : k = ⟨#[]⟩
    case neg =>
      have H := hide (unhide HNO (fun h => hk0 (empty_size h.2.2.2.1)))
      have hkb := ne_empty hk0
      clear h2 hk0
      go_wp2_with fail
      go_ret
      exact ⟨ret_int (unhide H).symm, unhide B2⟩
    by_cases hv0 : v = ⟨#[]⟩
    case neg =>
      have H := hide (unhide HNO (fun h => hv0 (empty_size h.2.2.2.2)))
      have hvb := ne_empty hv0
      subst hk0
      clear h2 hv0
      go_wp2_with fail
      go_ret
      exact ⟨ret_int (unhide H).symm, unhide B2⟩
    subst hk0 hv0
    have hemp : (⟨#[]⟩ : ByteArray).toList.isEmpty = true := emptyB_iff.2 rfl
    go_wp2_with fail
    refine (unhide HW w2).mono ?_
    rintro e w9 ⟨rfl, hw9⟩
    subst w9
    cases b1
    · have H := hide (unhide HNO (fun h => by have := (unhide HI).2 ⟨h.1, h.2.1⟩; cases this))
      clear h2
      go_wp2_with fail
      go_ret
      exact ⟨ret_int (unhide H).symm, unhide B2⟩
    obtain ⟨ha0, ha1⟩ := (unhide HI).1 rfl
    obtain ⟨b0, b1, rfl⟩ := two_of h2
    obtain ⟨bb, off, kvf, rfl, _, hat⟩ := (unhide HBR2).at (by simp)
    have hbb := hat.lt
    obtain ⟨s00, s01, s02, s03⟩ := hat.cells 0 (by simp)
    obtain ⟨s10, s11, s12, s13⟩ := hat.cells 1 (by simp)
    have K0 := hide (hat.kids 0 (by simp))
    have K1 := hide (hat.kids 1 (by simp))
    have Z0 := hide (hat.small 0 (by simp))
    have Z1 := hide (hat.small 1 (by simp))
    simp only [List.getD_cons_zero, List.getD_cons_succ, Nat.zero_mul, Nat.add_zero, Nat.one_mul] at s00 s01 s02 s03 s10 s11 s12 s13 K0 K1 Z0 Z1
    obtain ⟨ka0, kc0, hkv0, hkl0, hkm0⟩ := (unhide K0).shape
    obtain ⟨ka1, kc1, hkv1, _, _⟩ := (unhide K1).shape
    rw [hkv0] at K0 s03
    rw [hkv1] at K1 s13
    have z0 := kid_lt (k := ⟨#[]⟩) (v := ⟨#[]⟩) (a := a) (l := [b0, b1]) (b := b0) (by simp)
    have z1 := kid_lt (k := ⟨#[]⟩) (v := ⟨#[]⟩) (a := a) (l := [b0, b1]) (b := b1) (by simp)
    have hszz := unhide HSZ
    have HH0 := hide (fun pl' left' wx (hp : (pl'.length : Int) ≤ a + 1) h01' q0 q1 (hx : Below w2.heap.size w2 wx) => unhide HIH b0 (by omega) S (a + 1) pl' left' (.slice ka0 b0.kids.length kc0) wx ((unhide K0).blw hx) (unhide Z0).1 (unhide Z0).2 (by omega) (by omega) hp h01' q0 q1)
    have HH1 := hide (fun pl' left' wx (hp : (pl'.length : Int) ≤ a + 1) h01' q0 q1 (hx : Below w2.heap.size w2 wx) => unhide HIH b1 (by omega) S (a + 1) pl' left' (.slice ka1 b1.kids.length kc1) wx ((unhide K1).blw hx) (unhide Z1).1 (unhide Z1).2 (by omega) (by omega) hp h01' q0 q1)
    have hA2 : IntKind.i64.wrap (a + 1) = a + 1 := wrapMi a ha0 ha1 hl0
    clear hat hkv0 hkv1 z0 z1 hszz h2 HIH HSZ h2b HNO hks
    have F0 := hide (Blk.new w2 #[.string b0.key, .string b0.val, .int .i64 b0.at_, .slice ka0 b0.kids.length kc0] 25 w2.heap.size rfl)
    have BF0 := hide ((Below.refl w2.heap.size w2).alloc (Nat.le_refl _) (.cells #[.string b0.key, .string b0.val, .int .i64 b0.at_, .slice ka0 b0.kids.length kc0] 25))
    have K0b := hide ((unhide K0).bound)
    go_wp2_with fail
    generalize w2.alloc (.cells #[.string b0.key, .string b0.val, .int .i64 b0.at_, .slice ka0 b0.kids.length kc0] 25) = w3 at *
    go_loopw [10] (fun i wr => ∃ (j : Nat) (fa : Option Addr) (fc : Nat), j ≤ 256 ∧ i = .int .i64 j ∧ Blk wr w2.heap.size [.string (lm j b0).key, .string (lm j b0).val, .int .i64 (lm j b0).at_, .slice fa (lm j b0).kids.length fc] ∧ Brs (fun x => x < w2.heap.size) w2 (.slice fa (lm j b0).kids.length fc) (lm j b0).kids ∧ (lm j b0).key.size ≤ maxLen ∧ (lm j b0).val.size ≤ maxLen ∧ Below w2.heap.size w2 wr) (fun i _ => 256 - (intOf i).toNat)
    case atStart => exact ⟨0, ka0, kc0, Nat.zero_le _, rfl, unhide F0, unhide K0b, (unhide Z0).1, (unhide Z0).2, unhide BF0⟩
    case round =>
      obtain ⟨j, fa, fc, hj, rfl, hF, hKF, hkf, hvf, hbr⟩ := hrel
      have HLM := hide (fun (c : Br) r (h : (lm j b0).kids = c :: r) => lm_next j b0 c r h)
      have HST := hide (fun (h : (lm j b0).kids = []) => lm_stop j 256 b0 hj h)
      obtain ⟨_, _, _, hfl, hfm⟩ := hKF.shape
      obtain ⟨f, hfe⟩ : ∃ f, f = lm j b0 := ⟨_, rfl⟩
      rw [← hfe] at hF hKF hkf hvf hfl HLM HST
      have HFE := hide hfe
      have HKF := hide hKF
      have HBR := hide hbr
      have HZF := hide (And.intro hkf hvf)
      have FF := hide hF
      clear hfe hKF hbr hkf hvf hF
      have g0 := (unhide FF).cell 0 rfl
      have g1 := (unhide FF).cell 1 rfl
      have g2 := (unhide FF).cell 2 rfl
      have g3 := (unhide FF).cell 3 rfl
      have HLF := hide (fun wx => l07Leaf_any f.key f.val f.at_ fa f.kids.length fc wx (by unfold maxLen at hfm ⊢; omega))
      go_upto_region 11 with fail
      go_cut [76] (fun s wx => s = .bool (decide (j < 256 ∧ f.kids.length ≠ 0)) ∧ Below wr.heap.size wr wx)
      case first =>
        by_cases hj2 : j < 256
        · have hj3 : (j : Int) < 256 := by omega
          by_cases hf2 : f.kids.length = 0
          · have H := hide (show decide (j < 256 ∧ f.kids.length ≠ 0) = false by simp [hf2])
            rw [decide_eq_true hf2] at HLF
            clear hf2
            go_wp2_with fail
            refine (unhide HLF wr).mono ?_
            rintro e w9 ⟨rfl, hb9⟩
            have K9 := hide hb9
            clear hb9
            go_wp2_with fail
            go_meet
            exact ⟨by rw [unhide H], unhide K9⟩
          · have H := hide (show decide (j < 256 ∧ f.kids.length ≠ 0) = true by simp [hf2, hj2])
            rw [decide_eq_false hf2] at HLF
            clear hf2
            go_wp2_with fail
            refine (unhide HLF wr).mono ?_
            rintro e w9 ⟨rfl, hb9⟩
            have K9 := hide hb9
            clear hb9
            go_wp2_with fail
            go_meet
            exact ⟨by rw [unhide H], unhide K9⟩
        · have H := hide (show decide (j < 256 ∧ f.kids.length ≠ 0) = false by simp [hj2])
          have hj3 : ¬ (j : Int) < 256 := by omega
          go_wp2_with fail
          go_meet
          exact ⟨by rw [unhide H], Below.refl _ _⟩
      case rest =>
        obtain ⟨rfl, hbc⟩ := hcut
        have FC := hide ((unhide FF).below hbc)
        have BC := hide ((unhide HBR).trans (hbc.mono (unhide HBR).size))
        clear g0 g1 g2 g3 hbc FF HBR
        by_cases hcond : j < 256 ∧ f.kids.length ≠ 0
        · rw [decide_eq_true hcond]
          obtain ⟨hj2, hf2⟩ := hcond
          obtain ⟨c, r, hcr⟩ : ∃ c r, f.kids = c :: r := by
            cases h : f.kids with
            | nil => rw [h] at hf2; simp at hf2
            | cons c r => exact ⟨c, r, rfl⟩
          obtain ⟨cb, coff, ckv, hca, _, hcat⟩ := (unhide HKF).at (by rw [hcr]; simp)
          subst hca
          obtain ⟨u0, u1, u2, u3⟩ := hcat.cells 0 (by rw [hcr]; simp)
          have KC := hide (hcat.kids 0 (by rw [hcr]; simp))
          have ZC := hide (hcat.small 0 (by rw [hcr]; simp))
          rw [hcr] at u0 u1 u2 KC ZC
          simp only [List.getD_cons_zero, Nat.zero_mul, Nat.add_zero] at u0 u1 u2 u3 KC ZC
          obtain ⟨kca, kcc, hkc, _, _⟩ := (unhide KC).shape
          rw [hkc] at KC u3
          have hcl := hcat.here
          have d0 := ((unhide BC).cell (p := ⟨cb, coff, none⟩) hcl).trans u0
          have d1 := ((unhide BC).cell (p := ⟨cb, coff + 1, none⟩) hcl).trans u1
          have d2 := ((unhide BC).cell (p := ⟨cb, coff + 2, none⟩) hcl).trans u2
          have d3 := ((unhide BC).cell (p := ⟨cb, coff + 3, none⟩) hcl).trans u3
          have HNX := hide (unhide HLM c r hcr)
          have hfp : (0 : Int) < (f.kids.length : Int) := by omega
          have g0 := (unhide FC).cell 0 rfl
          have g1 := (unhide FC).cell 1 rfl
          have g2 := (unhide FC).cell 2 rfl
          have g3 := (unhide FC).cell 3 rfl
          have f0 := (unhide FC).fro 0
          have f1 := (unhide FC).fro 1
          have f2 := (unhide FC).fro 2
          have f3 := (unhide FC).fro 3
          have FN := hide (((((unhide FC).set 0 (.string c.key) (by simp)).set 1 (.string c.val) (by simp)).set 2 (.int .i64 c.at_) (by simp)).set 3 (.slice kca c.kids.length kcc) (by simp))
          have BN := hide (((((unhide BC).setCell (p := ⟨w2.heap.size, 0, none⟩) (Nat.le_refl _) (.string c.key)).setCell (p := ⟨w2.heap.size, 1, none⟩) (Nat.le_refl _) (.string c.val)).setCell (p := ⟨w2.heap.size, 2, none⟩) (Nat.le_refl _) (.int .i64 c.at_)).setCell (p := ⟨w2.heap.size, 3, none⟩) (Nat.le_refl _) (.slice kca c.kids.length kcc))
          clear hcat u0 u1 u2 u3 hkc hf2 hcr FC BC
          go_wp2_with fail
          refine ⟨⟨j + 1, kca, kcc, by omega, by go_num, ?_, ?_, ?_, ?_, unhide BN⟩, ?_⟩
          · rw [unhide HNX]; exact unhide FN
          · rw [unhide HNX]; exact unhide KC
          · rw [unhide HNX]; exact (unhide ZC).1
          · rw [unhide HNX]; exact (unhide ZC).2
          · simp [intOf]; omega
        · rw [decide_eq_false hcond]
          have HF256 : Hid (f = lm 256 b0) := hide (by
            by_cases hj2 : j = 256
            · rw [unhide HFE, hj2]
            · rw [unhide HST (List.eq_nil_of_length_eq_zero (by omega))])
          clear hcond HFE HST HLM
          have XC := hide ((unhide X2).below (unhide BC))
          have HCF := hide (fun (hf : ¬ (f.kids = [] ∧ okK f.key = true)) => cv_first (k := ⟨#[]⟩) (v := ⟨#[]⟩) (a := a) (least := least) (left := left) (b0 := b0) (b1 := b1) (pl := pl) hl0 ⟨ha0, ha1, rfl, rfl⟩ (by rw [← unhide HF256]; exact hf))
          have HCP := hide (fun (hf : bitL (kh f.key) pl.length ≠ pl) => cv_pre (k := ⟨#[]⟩) (v := ⟨#[]⟩) (a := a) (least := least) (left := left) (b0 := b0) (b1 := b1) (pl := pl) hl0 ⟨ha0, ha1, rfl, rfl⟩ (by rw [← unhide HF256]; exact hf))
          have HCC := hide (fun (hf : bitL (kh f.key) pl.length = pl) => cv_fork (k := ⟨#[]⟩) (v := ⟨#[]⟩) (a := a) (least := least) (left := left) (b0 := b0) (b1 := b1) (pl := pl) hl0 (by omega) ⟨ha0, ha1, rfl, rfl⟩ (by rw [← unhide HF256]; exact hf))
          rw [← unhide HF256] at HCC
          have HCV0 := hide (fun pl' => cv_cases b0 (a + 1) pl' left (by omega) hf0)
          have HCV1 := hide (fun pl' left' (h : 0 ≤ left') => cv_cases b1 (a + 1) pl' left' (by omega) h)
          have g0 := (unhide FC).cell 0 rfl
          have g1 := (unhide FC).cell 1 rfl
          have g2 := (unhide FC).cell 2 rfl
          have g3 := (unhide FC).cell 3 rfl
          by_cases hf2 : f.kids.length = 0
          case neg =>
            have H := hide (unhide HCF (fun h => hf2 (by rw [h.1]; rfl)))
            rw [decide_eq_false hf2] at HLF
            clear hf2
            go_wp2_with fail
            refine (unhide HLF wc).mono ?_
            rintro e w9 ⟨rfl, hb9⟩
            have K9 := hide ((unhide B2).trans ((unhide BC).trans (hb9.mono (unhide BC).size) |>.mono (unhide B2).size))
            clear hb9
            go_wp2_with fail
            go_ret
            exact ⟨ret_int (unhide H).symm, unhide K9⟩
          have HKY := hide (fun wx => l02Keyb_any f.key wx (unhide HZF).1)
          have HOK := hide (okK_iff (k := f.key))
          have HCF2 : Hid (okK f.key = false → cv (.mk ⟨#[]⟩ ⟨#[]⟩ a [b0, b1]) least pl left = -1) := hide (fun h => unhide HCF (fun q => by rw [h] at q; cases q.2))
          generalize okK f.key = ok at *
          rw [decide_eq_true hf2] at HLF
          clear hf2 HCF
          go_wp2_with fail
          refine (unhide HLF wc).mono ?_
          rintro e w4 ⟨rfl, hb4⟩
          have B4 := hide ((unhide BC).trans (hb4.mono (unhide BC).size))
          have F4 := hide ((unhide FC).below hb4)
          have X4 := hide ((unhide XC).below hb4)
          clear hb4 g0 g1 g2 g3 HLF FC XC BC
          have g0 := (unhide F4).cell 0 rfl
          go_wp2_with fail
          refine (unhide HKY w4).mono ?_
          rintro e w9 ⟨rfl, hw9⟩
          subst w9
          cases ok
          · have H := hide (unhide HCF2 rfl)
            have K9 := hide ((unhide B2).trans ((unhide B4).mono (unhide B2).size))
            go_wp2_with fail
            go_ret
            exact ⟨ret_int (unhide H).symm, unhide K9⟩
          have hk24 := ((unhide HOK).1 rfl).2
          clear HCF2 HKY HOK
          have hk32 := kh_size (k := f.key) (by omega)
          have HHS := hide (fun wx => l07Hash_any f.key wx (by omega))
          have HBS := hide (fun wx => l01Bits_any (kh f.key) wx (by omega))
          rw [hk32] at HBS
          obtain ⟨an, rfl⟩ : ∃ an : Nat, a = (an : Int) := ⟨a.toNat, by omega⟩
          rw [Int.toNat_natCast] at HCC
          have hbz : (strOfNums (bitL (kh f.key) (8 * 32))).size = 256 := by rw [strOfNums_size, bitL_len]
          have hex : (strOfNums (bitL (kh f.key) (8 * 32))).extract 0 an = strOfNums (bitL (kh f.key) an) := by rw [str_take, bitL_take _ _ _ (by omega)]
          have han0 : (0 : Int) ≤ (an : Int) := by omega
          have han1 : (an : Int) ≤ 256 := by omega
          have hb01 := hide (bitL_01 (kh f.key) an)
          have hsa : (strOfNums (bitL (kh f.key) an)).size = an := by rw [strOfNums_size, bitL_len]
          have hex2 : (strOfNums (bitL (kh f.key) an)).extract 0 pl.length = strOfNums (bitL (kh f.key) pl.length) := by rw [str_take, bitL_take _ _ _ (by omega)]
          have HSI : Hid (strOfNums (bitL (kh f.key) pl.length) = strOfNums pl ↔ bitL (kh f.key) pl.length = pl) := hide ⟨fun h => str01 (bitL_01 _ _) (unhide H01) h, fun h => by rw [h]⟩
          have x2 := (unhide X4).cell 2 rfl
          have hFb : w2.heap.size < w4.heap.size := (unhide F4).1
          have hXb : w.heap.size < w4.heap.size := (unhide X4).1
          generalize strOfNums (bitL (kh f.key) (8 * 32)) = s256 at *
          generalize kh f.key = hk at *
          generalize f.key = fk at *
          go_wp2_with fail
          go_region_held3 (fun wx => wx.cell? ⟨w2.heap.size, 0, none⟩ = some (.string fk) ∧ wx.cell? ⟨w.heap.size, 2, none⟩ = some (.int .i64 an))
            (first | go_keep | exact ⟨(hb6.cell (p := ⟨w2.heap.size, 0, none⟩) hF5).trans c50, (hb6.cell (p := ⟨w.heap.size, 2, none⟩) hX5).trans c52⟩ | exact ⟨c50, c52⟩)
            (first
              | (go_at_call 88; refine (unhide HBS w5).mono ?_; rintro e w6 ⟨rfl, hb6⟩)
              | (go_at_call 37; refine (unhide HHS _).mono ?_; rintro e w5 ⟨rfl, hb5⟩; have c50 := (hb5.cell (p := ⟨w2.heap.size, 0, none⟩) hFb).trans g0; have c52 := (hb5.cell (p := ⟨w.heap.size, 2, none⟩) hXb).trans x2; have hF5 : w2.heap.size < w5.heap.size := Nat.lt_of_lt_of_le hFb hb5.size; have hX5 : w.heap.size < w5.heap.size := Nat.lt_of_lt_of_le hXb hb5.size))
          have B6 := hide ((below_drewN (unhide B4) 1).trans ((hb5.mono (Nat.le_of_lt hFb)).trans (hb6.mono (Nat.le_of_lt hF5))))
          have X6 := hide ((((unhide X4).drewN 1).below hb5).below hb6)
          clear hb5 hb6 c50 c52 hF5 hX5 g0 x2 hFb hXb F4 X4 B4 HHS HBS hbz hex
          have BW6 := hide ((unhide B2).trans ((unhide B6).mono (unhide B2).size))
          have hpa : ¬ (an : Int) < (pl.length : Int) := by omega
          have hpb : (pl.length : Int) ≤ (an : Int) := by omega
          obtain ⟨sb, hsb⟩ : ∃ sb, sb = strOfNums (bitL hk an) := ⟨_, rfl⟩
          rw [← hsb] at hsa hex2 ⊢
          have HSB := hide hsb
          clear hsb
          by_cases hq : strOfNums (bitL hk pl.length) = strOfNums pl
          case neg =>
            have H := hide (unhide HCP (fun h => hq ((unhide HSI).2 h)))
            have hqb := list_ne hq
            clear hq HCC HCP HSI
            generalize strOfNums (bitL hk pl.length) = sx at *
            generalize strOfNums pl = sp at *
            go_wp2_with fail
            go_ret
            exact ⟨ret_int (unhide H).symm, unhide BW6⟩
          have HCX := hide (unhide HCC ((unhide HSI).1 hq))
          have hqb := list_eq hq
          clear hq HCC HCP HSI
          generalize strOfNums (bitL hk pl.length) = sx at *
          generalize strOfNums pl = sp at *
          have hb6s := (unhide B6).size
          have hbb6 : bb < w6.heap.size := Nat.lt_of_lt_of_le hbb hb6s
          have hX6 : w.heap.size < w6.heap.size := (unhide X6).1
          have HA0 := hide (fun wx (hx : Below w6.heap.size w6 wx) => unhide HH0 (bitL hk an ++ [48]) left wx (by simp [bitL_len]) ((unhide hb01).push (.inl rfl)) hf0 hf1 ((unhide B6).trans (hx.mono hb6s)))
          have HA1 := hide (fun wx (q0 : 0 ≤ left - cv b0 ((an : Int) + 1) (bitL hk an ++ [48]) left) (q1 : left - cv b0 ((an : Int) + 1) (bitL hk an ++ [48]) left ≤ 40) (hx : Below w6.heap.size w6 wx) => unhide HH1 (bitL hk an ++ [49]) (left - cv b0 ((an : Int) + 1) (bitL hk an ++ [48]) left) wx (by simp [bitL_len]) ((unhide hb01).push (.inr rfl)) q0 q1 ((unhide B6).trans (hx.mono hb6s)))
          have e48 : strOfNums (bitL hk an ++ [48]) = sb ++ strOfNums [48] := by rw [← str_app, ← unhide HSB]
          have e49 : strOfNums (bitL hk an ++ [49]) = sb ++ strOfNums [49] := by rw [← str_app, ← unhide HSB]
          rw [e48] at HA0
          rw [e49] at HA1
          clear e48 e49
          have t00 := ((unhide B6).cell (p := ⟨bb, off, none⟩) hbb).trans s00
          have t01 := ((unhide B6).cell (p := ⟨bb, off + 1, none⟩) hbb).trans s01
          have t02 := ((unhide B6).cell (p := ⟨bb, off + 2, none⟩) hbb).trans s02
          have t03 := ((unhide B6).cell (p := ⟨bb, off + 3, none⟩) hbb).trans s03
          have t10 := ((unhide B6).cell (p := ⟨bb, off + 4, none⟩) hbb).trans s10
          have t11 := ((unhide B6).cell (p := ⟨bb, off + 4 + 1, none⟩) hbb).trans s11
          have t12 := ((unhide B6).cell (p := ⟨bb, off + 4 + 2, none⟩) hbb).trans s12
          have t13 := ((unhide B6).cell (p := ⟨bb, off + 4 + 3, none⟩) hbb).trans s13
          have HCC0 := hide (unhide HCV0 (bitL hk an ++ [48]))
          have HCC1 := hide (fun h => unhide HCV1 (bitL hk an ++ [49]) (left - cv b0 ((an : Int) + 1) (bitL hk an ++ [48]) left) h)
          have HT := hide (And.intro t00 (And.intro t01 (And.intro t02 (And.intro t03 (And.intro t10 (And.intro t11 (And.intro t12 t13)))))))
          clear HH0 HH1 s00 s01 s02 s03 s10 s11 s12 s13 HCV0 HCV1 hb01 K0 K1 Z0 Z1 K0b F0 BF0 HKF HZF t00 t01 t02 t03 t10 t11 t12 t13 y0 y1 y2 y3
          generalize cv b0 ((an : Int) + 1) (bitL hk an ++ [48]) left = c0 at *
          generalize cv b1 ((an : Int) + 1) (bitL hk an ++ [49]) (left - c0) = c1 at *
          obtain ⟨cvv, hcvv⟩ : ∃ cvv, cvv = cv (.mk ⟨#[]⟩ ⟨#[]⟩ (an : Int) [b0, b1]) least pl left := ⟨_, rfl⟩
          rw [← hcvv] at HCX
          have HCE := hide hcvv
          clear hcvv
          go_wp2_with fail
          go_loopw [12, 13, 14] (fun nv i _ wr => ∃ (j : Nat) (m : Int), j ≤ 2 ∧ i = .int .i64 j ∧ nv = .int .i64 m ∧ (j = 0 → m = 0) ∧ (j = 1 → m = c0 ∧ 1 ≤ m ∧ m ≤ left) ∧ (j = 2 → m = cvv) ∧ Below w6.heap.size w6 wr) (fun _ i _ _ => 2 - (intOf i).toNat)
          case atStart => exact ⟨0, 0, by omega, rfl, rfl, fun _ => rfl, fun h => by omega, fun h => by omega, Below.refl _ _⟩
          case round =>
            obtain ⟨jj, m, hjj, rfl, rfl, hm0, hm1, hm2, hb7⟩ := hrel
            have HB7 := hide hb7
            have X7 := hide ((unhide X6).below hb7)
            have hXr : w.heap.size < wr.heap.size := (unhide X7).1
            have hbbr : bb < wr.heap.size := Nat.lt_of_lt_of_le hbb6 hb7.size
            have x2 := (unhide X7).cell 2 rfl
            have x3 := (unhide X7).cell 3 rfl
            rcases (show jj = 0 ∨ jj = 1 ∨ jj = 2 by omega) with hj0 | hj0 | hj0
            · subst hj0
              obtain rfl := hm0 rfl
              have r0 := (hb7.cell (p := ⟨bb, off, none⟩) hbb6).trans (unhide HT).1
              have r1 := (hb7.cell (p := ⟨bb, off + 1, none⟩) hbb6).trans (unhide HT).2.1
              have r2 := (hb7.cell (p := ⟨bb, off + 2, none⟩) hbb6).trans (unhide HT).2.2.1
              have r3 := (hb7.cell (p := ⟨bb, off + 3, none⟩) hbb6).trans (unhide HT).2.2.2.1
              clear hm0 hm1 hm2 hb7
              have hcv : (convert 22 9 (.slice (some ⟨wr.heap.size, 0, none⟩) 1 1)).run Tryd.prog (wr.alloc (.cells #[.int .u8 48] 5)).drew = .ok (.string (strOfNums [48])) (wr.alloc (.cells #[.int .u8 48] 5)).drew := conv_one wr.drew 48
              have BA : Hid (Below w6.heap.size w6 (wr.alloc (.cells #[.int .u8 48] 5)).drew) := hide (((unhide HB7).alloc (unhide HB7).size _).drew)
              have BA2 : Hid (Below wr.heap.size wr (wr.alloc (.cells #[.int .u8 48] 5)).drew) := hide (((Below.refl _ wr).alloc (Nat.le_refl _) _).drew)
              have HA0' := hide (unhide HA0 _ (unhide BA))
              have hs48 : (strOfNums [48]).size = 1 := rfl
              have hq1 : IntKind.u8.wrap 0 = 0 := by decide
              have hq2 : IntKind.u8.wrap 48 = 48 := by decide
              have hq3 : IntKind.u8.wrap (48 + 0) = 48 := by decide
              have HSX : Hid (∀ wx, Below wr.heap.size wr wx → wx.cell? ⟨w.heap.size, 2, none⟩ = some (.int .i64 an) ∧ wx.cell? ⟨w.heap.size, 3, none⟩ = some (.slice (some ⟨bb, off, none⟩) 2 cap) ∧ wx.cell? ⟨bb, off, none⟩ = some (.string b0.key) ∧ wx.cell? ⟨bb, off + 1, none⟩ = some (.string b0.val) ∧ wx.cell? ⟨bb, off + 2, none⟩ = some (.int .i64 b0.at_) ∧ wx.cell? ⟨bb, off + 3, none⟩ = some (.slice ka0 b0.kids.length kc0)) := hide (fun wx hb => ⟨(hb.cell (p := ⟨w.heap.size, 2, none⟩) hXr).trans x2, (hb.cell (p := ⟨w.heap.size, 3, none⟩) hXr).trans x3, (hb.cell (p := ⟨bb, off, none⟩) hbbr).trans r0, (hb.cell (p := ⟨bb, off + 1, none⟩) hbbr).trans r1, (hb.cell (p := ⟨bb, off + 2, none⟩) hbbr).trans r2, (hb.cell (p := ⟨bb, off + 3, none⟩) hbbr).trans r3⟩)
              go_wp2_with fail
              go_region_held_law (fun wx => wx.cell? ⟨w.heap.size, 2, none⟩ = some (.int .i64 an) ∧ wx.cell? ⟨w.heap.size, 3, none⟩ = some (.slice (some ⟨bb, off, none⟩) 2 cap) ∧ wx.cell? ⟨bb, off, none⟩ = some (.string b0.key) ∧ wx.cell? ⟨bb, off + 1, none⟩ = some (.string b0.val) ∧ wx.cell? ⟨bb, off + 2, none⟩ = some (.int .i64 b0.at_) ∧ wx.cell? ⟨bb, off + 3, none⟩ = some (.slice ka0 b0.kids.length kc0)) (first | go_keep | exact unhide HSX _ (unhide BA2) | exact unhide HSX _ hb9) ((go_at_call 59; refine (unhide HA0').mono ?_; rintro e w8 ⟨rfl, hb8⟩; have hb9 := (unhide BA2).trans (hb8.mono (unhide BA2).size)))
              have B8 := hide ((unhide HB7).trans (hb9.mono (unhide HB7).size))
              have BW8 := hide ((unhide BW6).trans ((unhide B8).mono (unhide BW6).size))
              clear hb8 hb9 HA0' hcv BA BA2 HSX r0 r1 r2 r3 x2 x3 hq1 hq2 hq3
              rcases unhide HCC0 with hcz | ⟨hcz, hcy⟩
              · have H : Hid (cvv = -1) := hide (by rw [unhide HCX, if_pos (by omega)])
                have hcn : c0 < 0 := by omega
                clear hcz
                go_wp2_with fail
                go_ret
                exact ⟨ret_int ((unhide H).symm.trans (unhide HCE)), unhide BW8⟩
              · have hcn : ¬ c0 < 0 := by omega
                go_wp2_with fail
                refine ⟨⟨1, c0, by omega, rfl, by simp, fun h => by omega, fun _ => ⟨rfl, hcz, hcy⟩, fun h => by omega, unhide B8⟩, ?_⟩
                simp [intOf]
            · subst hj0
              obtain ⟨hmc, hml, hmu⟩ := hm1 rfl
              subst hmc
              have r0 := (hb7.cell (p := ⟨bb, off + 4, none⟩) hbb6).trans (unhide HT).2.2.2.2.1
              have r1 := (hb7.cell (p := ⟨bb, off + 4 + 1, none⟩) hbb6).trans (unhide HT).2.2.2.2.2.1
              have r2 := (hb7.cell (p := ⟨bb, off + 4 + 2, none⟩) hbb6).trans (unhide HT).2.2.2.2.2.2.1
              have r3 := (hb7.cell (p := ⟨bb, off + 4 + 3, none⟩) hbb6).trans (unhide HT).2.2.2.2.2.2.2
              clear hm0 hm1 hm2 hb7
              have hcv : (convert 22 9 (.slice (some ⟨wr.heap.size, 0, none⟩) 1 1)).run Tryd.prog (wr.alloc (.cells #[.int .u8 49] 5)).drew = .ok (.string (strOfNums [49])) (wr.alloc (.cells #[.int .u8 49] 5)).drew := conv_one wr.drew 49
              have BA : Hid (Below w6.heap.size w6 (wr.alloc (.cells #[.int .u8 49] 5)).drew) := hide (((unhide HB7).alloc (unhide HB7).size _).drew)
              have BA2 : Hid (Below wr.heap.size wr (wr.alloc (.cells #[.int .u8 49] 5)).drew) := hide (((Below.refl _ wr).alloc (Nat.le_refl _) _).drew)
              have HA1' := hide (unhide HA1 _ (by omega) (by omega) (unhide BA))
              have hs48 : (strOfNums [49]).size = 1 := rfl
              have hq1 : IntKind.u8.wrap 1 = 1 := by decide
              have hq2 : IntKind.u8.wrap 49 = 49 := by decide
              have hq3 : IntKind.u8.wrap (48 + 1) = 49 := by decide
              have HSX : Hid (∀ wx, Below wr.heap.size wr wx → wx.cell? ⟨w.heap.size, 2, none⟩ = some (.int .i64 an) ∧ wx.cell? ⟨w.heap.size, 3, none⟩ = some (.slice (some ⟨bb, off, none⟩) 2 cap) ∧ wx.cell? ⟨bb, off + 4, none⟩ = some (.string b1.key) ∧ wx.cell? ⟨bb, off + 4 + 1, none⟩ = some (.string b1.val) ∧ wx.cell? ⟨bb, off + 4 + 2, none⟩ = some (.int .i64 b1.at_) ∧ wx.cell? ⟨bb, off + 4 + 3, none⟩ = some (.slice ka1 b1.kids.length kc1)) := hide (fun wx hb => ⟨(hb.cell (p := ⟨w.heap.size, 2, none⟩) hXr).trans x2, (hb.cell (p := ⟨w.heap.size, 3, none⟩) hXr).trans x3, (hb.cell (p := ⟨bb, off + 4, none⟩) hbbr).trans r0, (hb.cell (p := ⟨bb, off + 4 + 1, none⟩) hbbr).trans r1, (hb.cell (p := ⟨bb, off + 4 + 2, none⟩) hbbr).trans r2, (hb.cell (p := ⟨bb, off + 4 + 3, none⟩) hbbr).trans r3⟩)
              go_wp2_with fail
              go_region_held_law (fun wx => wx.cell? ⟨w.heap.size, 2, none⟩ = some (.int .i64 an) ∧ wx.cell? ⟨w.heap.size, 3, none⟩ = some (.slice (some ⟨bb, off, none⟩) 2 cap) ∧ wx.cell? ⟨bb, off + 4, none⟩ = some (.string b1.key) ∧ wx.cell? ⟨bb, off + 4 + 1, none⟩ = some (.string b1.val) ∧ wx.cell? ⟨bb, off + 4 + 2, none⟩ = some (.int .i64 b1.at_) ∧ wx.cell? ⟨bb, off + 4 + 3, none⟩ = some (.slice ka1 b1.kids.length kc1)) (first | go_keep | exact unhide HSX _ (unhide BA2) | exact unhide HSX _ hb9) ((go_at_call 59; refine (unhide HA1').mono ?_; rintro e w8 ⟨rfl, hb8⟩; have hb9 := (unhide BA2).trans (hb8.mono (unhide BA2).size)))
              have B8 := hide ((unhide HB7).trans (hb9.mono (unhide HB7).size))
              have BW8 := hide ((unhide BW6).trans ((unhide B8).mono (unhide BW6).size))
              clear hb8 hb9 HA1' hcv BA BA2 HSX r0 r1 r2 r3 x2 x3 hq1 hq2 hq3
              rcases unhide HCC1 (by omega) with hcz | ⟨hcz, hcy⟩
              · have H : Hid (cvv = -1) := hide (by rw [unhide HCX, if_neg (by omega), if_pos (by omega)])
                have hcn : c1 < 0 := by omega
                clear hcz
                go_wp2_with fail
                go_ret
                exact ⟨ret_int ((unhide H).symm.trans (unhide HCE)), unhide BW8⟩
              · have H : Hid (m + c1 = cvv) := hide (by rw [unhide HCX, if_neg (by omega), if_neg (by omega)])
                have hcn : ¬ c1 < 0 := by omega
                go_wp2_with fail
                refine ⟨⟨2, m + c1, by omega, rfl, by simp, fun h => by omega, fun h => by omega, fun _ => unhide H, unhide B8⟩, ?_⟩
                simp [intOf]
            · subst hj0
              have H := hide (hm2 rfl)
              have BW8 := hide ((unhide BW6).trans (hb7.mono (unhide BW6).size))
              clear hm0 hm1 hm2 hb7
              go_wp2_with fail
              go_ret
              exact ⟨ret_int ((unhide H).trans (unhide HCE)), unhide BW8⟩
set_option maxRecDepth 100000 in
set_option maxHeartbeats 1000000 in
theorem specMapOK_any (k v : ByteArray) (a : Int) (ks : List Br) (S : Nat → Prop) (kv : Value) (w : World) (hB : Brs S w kv ks) (hk : k.size ≤ maxLen) (hv : v.size ≤ maxLen) :
    Calls Tryd.prog 22 #[.agg #[.string k, .string v, .int .i64 a, kv]] w fun e w' => e = .returned (.bool (mapB (.mk k v a ks))) ∧ Below w.heap.size w w' := by
  obtain ⟨sa, cap, rfl, hcap, hcm⟩ := hB.shape
  have B0 := hide ((Below.refl w.heap.size w).alloc (Nat.le_refl _) (.cells #[.string k, .string v, .int .i64 a, .slice sa ks.length cap] 25))
  have X0 := hide (Blk.new w #[.string k, .string v, .int .i64 a, .slice sa ks.length cap] 25 w.heap.size rfl)
  have HE := hide (fun wx => l07Empty_any k v a ks sa cap wx (by omega))
  have HC := hide (fun wx (hx : Below w.heap.size w wx) => count_any _ (.mk k v a ks) (Nat.le_refl _) S 0 [] 40 (.slice sa ks.length cap) wx (hB.blw hx) hk hv (by omega) (by omega) (by simp) (fun x hx => by simp at hx) (by omega) (by omega))
  dsimp only [Br.key, Br.val, Br.at_, Br.kids] at HC
  have HM := hide (mapB_cv (.mk k v a ks))
  have hst : strOfNums [] = ⟨#[]⟩ := rfl
  rw [hst] at HC
  clear hB hk hv hst
  generalize mapB (.mk k v a ks) = mb at *
  generalize emptyBr (.mk k v a ks) = eb at *
  generalize cv (.mk k v a ks) 0 [] 40 = c at *
  go_enter Tryd.func22, Tryd.ntmps22
  go_wp2_with fail
  generalize w.alloc (.cells #[.string k, .string v, .int .i64 a, .slice sa ks.length cap] 25) = w1 at *
  refine (unhide HE w1).mono ?_
  rintro e w2 ⟨rfl, hb2⟩
  have B2 := hide ((unhide B0).trans (hb2.mono (unhide B0).size))
  have X2 := hide ((unhide X0).below hb2)
  clear hb2
  have x0 := (unhide X2).cell 0 rfl
  have x1 := (unhide X2).cell 1 rfl
  have x2 := (unhide X2).cell 2 rfl
  have x3 := (unhide X2).cell 3 rfl
  cases eb
  · have HC2 := hide (unhide HC w2 (unhide B2))
    go_wp2_with fail
    refine (unhide HC2).mono ?_
    rintro e w3 ⟨rfl, hb3⟩
    have B3 := hide ((unhide B2).trans (hb3.mono (unhide B2).size))
    clear hb3
    have H : Hid (mb = decide (0 < c)) := hide (by rw [unhide HM]; simp)
    go_wp2_with fail
    go_ret
    exact ⟨ret_bool (unhide H).symm, unhide B3⟩
  · have H : Hid (mb = true) := hide (by rw [unhide HM]; simp)
    go_wp2_with fail
    go_ret
    exact ⟨ret_bool (unhide H).symm, unhide B2⟩
end Go.Proofs.YtnajpeaieeaflaaDoor.Sha
