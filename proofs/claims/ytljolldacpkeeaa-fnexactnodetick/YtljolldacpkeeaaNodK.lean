/- A node's marks, laid and found again: laws.markNode, laws.heldNode. (Written by py/nodk.py.) -/
import Derived.Test.YtljolldacpkeeaaHaa
import Derived.Test.YtljolldacpkeeaaStM
import Derived.Test.YtljolldacpkeeaaMarkJ
namespace Go.Proofs.Ytljolldacpkeeaa
open Go.ChangeShapes Go.WideShapes Go.ChangeAt Go.RowKit Go.Deep
set_option linter.unusedVariables false

/-- The blocks of a node's lists. -/
def NoT (vs : List Value) (q : Nat) : Prop := ∃ v ∈ vs, v.ownBlock = some q
theorem apart_ne {a b : Value} (h : Apart a b) : ∀ k, b.ownBlock = some k → ¬ (a.ownBlock = some k) := fun k h1 h2 => h k h2 h1
set_option maxRecDepth 100000 in
set_option maxHeartbeats 4000000 in
theorem markNode_any (id tm vo ro cm el wt : Int) (up : Bool) (lg : List En) (st vs nx mt : List Int) (la : Option Addr) (lc : Nat) (sa : Option Addr) (sc : Nat) (va : Option Addr) (vc : Nat) (na : Option Addr) (nc : Nat) (ma : Option Addr) (mc : Nat) (nl ns nv nn nm : Nat) (e0 : lg.length = nl) (e1 : st.length = ns) (e2 : vs.length = nv) (e3 : nx.length = nn) (e4 : mt.length = nm) (B : Nat) (w : World) (h : NoO B w (.slice la nl lc) (.slice sa ns sc) (.slice va nv vc) (.slice na nn nc) (.slice ma nm mc) lg st vs nx mt) (hB : B ≤ w.heap.size) (hs : NoS lg st vs nx mt) :
    Calls Try.prog 11 #[.agg #[.int .i64 id, .int .i64 tm, .int .i64 vo, .slice la nl lc, .slice sa ns sc, .int .i64 ro, .slice va nv vc, .slice na nn nc, .slice ma nm mc, .int .i64 cm, .int .i64 el, .int .i64 wt, .bool up], .int .i64 1] w fun e w' => e = .returned (.int .i64 (((1 + 3 * nl + ns + nv + nn + nm : Nat)) : Int)) ∧ NoO B w' (.slice la nl lc) (.slice sa ns sc) (.slice va nv vc) (.slice na nn nc) (.slice ma nm mc) (mkEs 1 nl) (marksJ (1 + 3 * nl) ns) (marksJ (1 + 3 * nl + ns) nv) (marksJ (1 + 3 * nl + ns + nv) nn) (marksJ (1 + 3 * nl + ns + nv + nn) nm) ∧ Touch (NoT [(.slice la nl lc), (.slice sa ns sc), (.slice va nv vc), (.slice na nn nc), (.slice ma nm mc)]) w w' := by
  have AP := h.ap
  simp only [List.pairwise_cons, List.mem_cons, List.not_mem_nil, or_false, forall_eq_or_imp, forall_eq, List.Pairwise.nil, and_true, false_implies, implies_true] at AP
  obtain ⟨⟨als, alv, aln, alm⟩, ⟨asv, asn, asm⟩, ⟨avn, avm⟩, anm⟩ := AP
  obtain ⟨z0, zd, z1, z2, z3, z4⟩ := hs
  have L0 := h.lg
  have L1 := h.st
  have L2 := h.vs
  have L3 := h.nx
  have L4 := h.mt
  have hap := h.ap
  have T0 := (Touch.refl (NoT [(.slice la nl lc), (.slice sa ns sc), (.slice va nv vc), (.slice na nn nc), (.slice ma nm mc)]) w).alloc (.cells #[.int .i64 id, .int .i64 tm, .int .i64 vo, .slice la nl lc, .slice sa ns sc, .int .i64 ro, .slice va nv vc, .slice na nn nc, .slice ma nm mc, .int .i64 cm, .int .i64 el, .int .i64 wt, .bool up] 29)
  have TF := (Touch.refl (fun _ => False) w).alloc (.cells #[.int .i64 id, .int .i64 tm, .int .i64 vo, .slice la nl lc, .slice sa ns sc, .int .i64 ro, .slice va nv vc, .slice na nn nc, .slice ma nm mc, .int .i64 cm, .int .i64 el, .int .i64 wt, .bool up] 29)
  have lt0 := World.ownsRow.lt L0
  have lt1 := L1.lt
  have lt2 := L2.lt
  have lt3 := L3.lt
  have lt4 := L4.lt
  have X0 := Blk.new w #[.int .i64 id, .int .i64 tm, .int .i64 vo, .slice la nl lc, .slice sa ns sc, .int .i64 ro, .slice va nv vc, .slice na nn nc, .slice ma nm mc, .int .i64 cm, .int .i64 el, .int .i64 wt, .bool up] 29 w.heap.size rfl
  have M0_0 := L0.kept TF (fun _ _ e => e)
  have M1_0 := L1.kept TF (fun _ _ e => e)
  have M2_0 := L2.kept TF (fun _ _ e => e)
  have M3_0 := L3.kept TF (fun _ _ e => e)
  have M4_0 := L4.kept TF (fun _ _ e => e)
  clear L0 L1 L2 L3 L4 h TF
  have HM0 := hide M0_0
  have HM1 := hide M1_0
  have HM2 := hide M2_0
  have HM3 := hide M3_0
  have HM4 := hide M4_0
  have HX := hide X0
  have HT := hide T0
  have HA := hide (And.intro als (And.intro alv (And.intro aln (And.intro alm (And.intro asv (And.intro asn (And.intro asm (And.intro avn (And.intro avm anm)))))))))
  have HLT := hide (And.intro lt0 (And.intro lt1 (And.intro lt2 (And.intro lt3 lt4))))
  have HP := hide hap
  clear M0_0 M1_0 M2_0 M3_0 M4_0 X0 T0 als alv aln alm asv asn asm avn avm anm lt0 lt1 lt2 lt3 lt4 hap
  go_enter Try.func11, Try.ntmps11
  go_wp2_with fail
  generalize w.alloc (.cells #[.int .i64 id, .int .i64 tm, .int .i64 vo, .slice la nl lc, .slice sa ns sc, .int .i64 ro, .slice va nv vc, .slice na nn nc, .slice ma nm mc, .int .i64 cm, .int .i64 el, .int .i64 wt, .bool up] 29) = w0 at *
  have HC := hide (markEntryS_any 1 (by omega) (by omega) B _ lg w0 (unhide HM0) z0)
  rw [e0] at HC
  refine (unhide HC).mono ?_
  rintro e w1 ⟨rfl, hO, hT⟩
  have A_ := unhide HA
  have lt_ := (unhide HLT).1
  have hn_ : ((1 : Nat) : Int) + 3 * (nl : Int) = (((1 + 3 * nl) : Nat) : Int) := by push_cast; omega
  rw [hn_]
  have N1 := (unhide HM1).kept hT (apart_ne A_.1)
  have N2 := (unhide HM2).kept hT (apart_ne A_.2.1)
  have N3 := (unhide HM3).kept hT (apart_ne A_.2.2.1)
  have N4 := (unhide HM4).kept hT (apart_ne A_.2.2.2.1)
  have X_ := (unhide HX).kept hT (fun e => by have := (lt_ _ e).2; omega)
  have T_ := (unhide HT).trans hT (fun q hq e => ⟨_, by simp, e⟩)
  have xc := X_.cell 4 rfl
  clear HM0 HM1 HM2 HM3 HM4 HX HT HC
  have HM0 := hide hO
  have HM1 := hide N1
  have HM2 := hide N2
  have HM3 := hide N3
  have HM4 := hide N4
  have HX := hide X_
  have HT := hide T_
  clear hO hT X_ T_ A_ lt_ hn_ N1 N2 N3 N4
  go_wp2_with fail
  clear xc
  have HC := hide (markIntS_at (1 + 3 * nl) (by omega) (by omega) B _ st w1 (unhide HM1) z1)
  rw [e1] at HC
  refine (unhide HC).mono ?_
  rintro e w2 ⟨rfl, hO, hT⟩
  have A_ := unhide HA
  have lt_ := (unhide HLT).2.1
  have hn_ : (((1 + 3 * nl) : Nat) : Int) + (ns : Int) = (((1 + 3 * nl + ns) : Nat) : Int) := by push_cast; omega
  rw [hn_]
  have N0 := (unhide HM0).kept hT (fun q h1 h2 => A_.1 q h1 h2)
  have N2 := (unhide HM2).kept hT (apart_ne A_.2.2.2.2.1)
  have N3 := (unhide HM3).kept hT (apart_ne A_.2.2.2.2.2.1)
  have N4 := (unhide HM4).kept hT (apart_ne A_.2.2.2.2.2.2.1)
  have X_ := (unhide HX).kept hT (fun e => by have := (lt_ _ e).2; omega)
  have T_ := (unhide HT).trans hT (fun q hq e => ⟨_, by simp, e⟩)
  have xc := X_.cell 6 rfl
  clear HM0 HM1 HM2 HM3 HM4 HX HT HC
  have HM1 := hide hO
  have HM0 := hide N0
  have HM2 := hide N2
  have HM3 := hide N3
  have HM4 := hide N4
  have HX := hide X_
  have HT := hide T_
  clear hO hT X_ T_ A_ lt_ hn_ N0 N2 N3 N4
  go_wp2_with fail
  clear xc
  have HC := hide (markIntS_at (1 + 3 * nl + ns) (by omega) (by omega) B _ vs w2 (unhide HM2) z2)
  rw [e2] at HC
  refine (unhide HC).mono ?_
  rintro e w3 ⟨rfl, hO, hT⟩
  have A_ := unhide HA
  have lt_ := (unhide HLT).2.2.1
  have hn_ : (((1 + 3 * nl + ns) : Nat) : Int) + (nv : Int) = (((1 + 3 * nl + ns + nv) : Nat) : Int) := by push_cast; omega
  rw [hn_]
  have N0 := (unhide HM0).kept hT (fun q h1 h2 => A_.2.1 q h1 h2)
  have N1 := (unhide HM1).kept hT (fun q h1 h2 => A_.2.2.2.2.1 q h1 h2)
  have N3 := (unhide HM3).kept hT (apart_ne A_.2.2.2.2.2.2.2.1)
  have N4 := (unhide HM4).kept hT (apart_ne A_.2.2.2.2.2.2.2.2.1)
  have X_ := (unhide HX).kept hT (fun e => by have := (lt_ _ e).2; omega)
  have T_ := (unhide HT).trans hT (fun q hq e => ⟨_, by simp, e⟩)
  have xc := X_.cell 7 rfl
  clear HM0 HM1 HM2 HM3 HM4 HX HT HC
  have HM2 := hide hO
  have HM0 := hide N0
  have HM1 := hide N1
  have HM3 := hide N3
  have HM4 := hide N4
  have HX := hide X_
  have HT := hide T_
  clear hO hT X_ T_ A_ lt_ hn_ N0 N1 N3 N4
  go_wp2_with fail
  clear xc
  have HC := hide (markIntS_at (1 + 3 * nl + ns + nv) (by omega) (by omega) B _ nx w3 (unhide HM3) z3)
  rw [e3] at HC
  refine (unhide HC).mono ?_
  rintro e w4 ⟨rfl, hO, hT⟩
  have A_ := unhide HA
  have lt_ := (unhide HLT).2.2.2.1
  have hn_ : (((1 + 3 * nl + ns + nv) : Nat) : Int) + (nn : Int) = (((1 + 3 * nl + ns + nv + nn) : Nat) : Int) := by push_cast; omega
  rw [hn_]
  have N0 := (unhide HM0).kept hT (fun q h1 h2 => A_.2.2.1 q h1 h2)
  have N1 := (unhide HM1).kept hT (fun q h1 h2 => A_.2.2.2.2.2.1 q h1 h2)
  have N2 := (unhide HM2).kept hT (fun q h1 h2 => A_.2.2.2.2.2.2.2.1 q h1 h2)
  have N4 := (unhide HM4).kept hT (apart_ne A_.2.2.2.2.2.2.2.2.2)
  have X_ := (unhide HX).kept hT (fun e => by have := (lt_ _ e).2; omega)
  have T_ := (unhide HT).trans hT (fun q hq e => ⟨_, by simp, e⟩)
  have xc := X_.cell 8 rfl
  clear HM0 HM1 HM2 HM3 HM4 HX HT HC
  have HM3 := hide hO
  have HM0 := hide N0
  have HM1 := hide N1
  have HM2 := hide N2
  have HM4 := hide N4
  have HX := hide X_
  have HT := hide T_
  clear hO hT X_ T_ A_ lt_ hn_ N0 N1 N2 N4
  go_wp2_with fail
  clear xc
  have HC := hide (markIntS_at (1 + 3 * nl + ns + nv + nn) (by omega) (by omega) B _ mt w4 (unhide HM4) z4)
  rw [e4] at HC
  refine (unhide HC).mono ?_
  rintro e w5 ⟨rfl, hO, hT⟩
  have A_ := unhide HA
  have lt_ := (unhide HLT).2.2.2.2
  have hn_ : (((1 + 3 * nl + ns + nv + nn) : Nat) : Int) + (nm : Int) = (((1 + 3 * nl + ns + nv + nn + nm) : Nat) : Int) := by push_cast; omega
  rw [hn_]
  have N0 := (unhide HM0).kept hT (fun q h1 h2 => A_.2.2.2.1 q h1 h2)
  have N1 := (unhide HM1).kept hT (fun q h1 h2 => A_.2.2.2.2.2.2.1 q h1 h2)
  have N2 := (unhide HM2).kept hT (fun q h1 h2 => A_.2.2.2.2.2.2.2.2.1 q h1 h2)
  have N3 := (unhide HM3).kept hT (fun q h1 h2 => A_.2.2.2.2.2.2.2.2.2 q h1 h2)
  have X_ := (unhide HX).kept hT (fun e => by have := (lt_ _ e).2; omega)
  have T_ := (unhide HT).trans hT (fun q hq e => ⟨_, by simp, e⟩)
  clear HM0 HM1 HM2 HM3 HM4 HX HT HC
  have HM4 := hide hO
  have HM0 := hide N0
  have HM1 := hide N1
  have HM2 := hide N2
  have HM3 := hide N3
  have HX := hide X_
  have HT := hide T_
  clear hO hT X_ T_ A_ lt_ hn_ N0 N1 N2 N3
  go_wp2_with fail
  go_ret
  refine ⟨rfl, ⟨unhide HM0, ?_, ?_, ?_, ?_, unhide HP⟩, unhide HT⟩
  · have := unhide HM1; exact this
  · have := unhide HM2; exact this
  · have := unhide HM3; exact this
  · have := unhide HM4; exact this
set_option maxRecDepth 100000 in
set_option maxHeartbeats 4000000 in
theorem heldNode_any (id tm vo ro cm el wt : Int) (up : Bool) (la : Option Addr) (lc : Nat) (sa : Option Addr) (sc : Nat) (va : Option Addr) (vc : Nat) (na : Option Addr) (nc : Nat) (ma : Option Addr) (mc : Nat) (nl ns nv nn nm : Nat) (B : Nat) (w : World) (h : NoO B w (.slice la nl lc) (.slice sa ns sc) (.slice va nv vc) (.slice na nn nc) (.slice ma nm mc) (mkEs 1 nl) (marksJ (1 + 3 * nl) ns) (marksJ (1 + 3 * nl + ns) nv) (marksJ (1 + 3 * nl + ns + nv) nn) (marksJ (1 + 3 * nl + ns + nv + nn) nm)) (z0 : nl ≤ 1048576) (z1 : ns ≤ 1048576) (z2 : nv ≤ 1048576) (z3 : nn ≤ 1048576) (z4 : nm ≤ 1048576) :
    Calls Try.prog 13 #[.agg #[.int .i64 id, .int .i64 tm, .int .i64 vo, .slice la nl lc, .slice sa ns sc, .int .i64 ro, .slice va nv vc, .slice na nn nc, .slice ma nm mc, .int .i64 cm, .int .i64 el, .int .i64 wt, .bool up], .int .i64 1] w fun e w' => e = .returned (.int .i64 (((1 + 3 * nl + ns + nv + nn + nm : Nat)) : Int)) ∧ Below w.heap.size w w' := by
  have B0 := hide ((Below.refl w.heap.size w).alloc (Nat.le_refl _) (.cells #[.int .i64 id, .int .i64 tm, .int .i64 vo, .slice la nl lc, .slice sa ns sc, .int .i64 ro, .slice va nv vc, .slice na nn nc, .slice ma nm mc, .int .i64 cm, .int .i64 el, .int .i64 wt, .bool up] 29))
  have X0 := hide (Blk.new w #[.int .i64 id, .int .i64 tm, .int .i64 vo, .slice la nl lc, .slice sa ns sc, .int .i64 ro, .slice va nv vc, .slice na nn nc, .slice ma nm mc, .int .i64 cm, .int .i64 el, .int .i64 wt, .bool up] 29 w.heap.size rfl)
  have HH := hide (h.below (unhide B0))
  clear h
  go_enter Try.func13, Try.ntmps13
  go_wp2_with fail
  generalize w.alloc (.cells #[.int .i64 id, .int .i64 tm, .int .i64 vo, .slice la nl lc, .slice sa ns sc, .int .i64 ro, .slice va nv vc, .slice na nn nc, .slice ma nm mc, .int .i64 cm, .int .i64 el, .int .i64 wt, .bool up] 29) = w0 at *
  have HC := hide (heldEntryS_any 1 (by omega) (by omega) B _ nl w0 (unhide HH).lg z0)
  refine (unhide HC).mono ?_
  rintro e w1 ⟨rfl, hb⟩
  have K1 := hide ((unhide B0).trans (hb.mono (unhide B0).size))
  have X1 := (unhide X0).below hb
  have H1 := hide ((unhide HH).below hb)
  have hn_ : ((1 : Nat) : Int) + 3 * (nl : Int) = (((1 + 3 * nl) : Nat) : Int) := by push_cast; omega
  rw [hn_]
  have x4 := X1.cell 4 rfl
  have x6 := X1.cell 6 rfl
  have x7 := X1.cell 7 rfl
  have x8 := X1.cell 8 rfl
  clear hb X1 B0 X0 HH HC hn_
  have p1 : ¬ ((((1 + 3 * nl) : Nat) : Int) < 0) := by omega
  have HC := hide (heldIntS_at (1 + 3 * nl) (by omega) (by omega) B _ ns w1 (unhide H1).st z1)
  go_wp2_with fail
  refine (unhide HC).mono ?_
  rintro e w' ⟨rfl, hw'⟩
  have hw2 := hw'.symm
  clear hw'
  subst hw2
  have hn_ : (((1 + 3 * nl) : Nat) : Int) + (ns : Int) = (((1 + 3 * nl + ns) : Nat) : Int) := by push_cast; omega
  rw [hn_]
  clear HC hn_ p1
  have p2 : ¬ ((((1 + 3 * nl + ns) : Nat) : Int) < 0) := by omega
  have HC := hide (heldIntS_at (1 + 3 * nl + ns) (by omega) (by omega) B _ nv w1 (unhide H1).vs z2)
  go_wp2_with fail
  refine (unhide HC).mono ?_
  rintro e w' ⟨rfl, hw'⟩
  have hw2 := hw'.symm
  clear hw'
  subst hw2
  have hn_ : (((1 + 3 * nl + ns) : Nat) : Int) + (nv : Int) = (((1 + 3 * nl + ns + nv) : Nat) : Int) := by push_cast; omega
  rw [hn_]
  clear HC hn_ p2
  have p3 : ¬ ((((1 + 3 * nl + ns + nv) : Nat) : Int) < 0) := by omega
  have HC := hide (heldIntS_at (1 + 3 * nl + ns + nv) (by omega) (by omega) B _ nn w1 (unhide H1).nx z3)
  go_wp2_with fail
  refine (unhide HC).mono ?_
  rintro e w' ⟨rfl, hw'⟩
  have hw2 := hw'.symm
  clear hw'
  subst hw2
  have hn_ : (((1 + 3 * nl + ns + nv) : Nat) : Int) + (nn : Int) = (((1 + 3 * nl + ns + nv + nn) : Nat) : Int) := by push_cast; omega
  rw [hn_]
  clear HC hn_ p3
  have p4 : ¬ ((((1 + 3 * nl + ns + nv + nn) : Nat) : Int) < 0) := by omega
  have HC := hide (heldIntS_at (1 + 3 * nl + ns + nv + nn) (by omega) (by omega) B _ nm w1 (unhide H1).mt z4)
  go_wp2_with fail
  refine (unhide HC).mono ?_
  rintro e w' ⟨rfl, hw'⟩
  have hw2 := hw'.symm
  clear hw'
  subst hw2
  have hn_ : (((1 + 3 * nl + ns + nv + nn) : Nat) : Int) + (nm : Int) = (((1 + 3 * nl + ns + nv + nn + nm) : Nat) : Int) := by push_cast; omega
  rw [hn_]
  clear HC hn_ p4
  have p5 : ¬ ((((1 + 3 * nl + ns + nv + nn + nm) : Nat) : Int) < 0) := by omega
  go_wp2_with fail
  go_ret
  exact ⟨rfl, unhide K1⟩
end Go.Proofs.Ytljolldacpkeeaa
