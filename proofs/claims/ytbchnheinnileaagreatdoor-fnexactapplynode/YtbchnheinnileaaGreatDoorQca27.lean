/- What the proof of the claim needs (joined by program): NodK. -/
import Derived.Test.YtbchnheinnileaaGreatDoorQca22
import Derived.Test.YtbchnheinnileaaGreatDoorQca26
namespace Go.Proofs.YtbchnheinnileaaGreatDoor
set_option maxRecDepth 100000
set_option maxHeartbeats 8000000
open Go.ChangeShapes Go.WideShapes Go.ChangeAt Go.RowKit Go.Deep
set_option linter.unusedVariables false
def NoT (vs : List Value) (q : Nat) : Prop := ∃ v ∈ vs, v.ownBlock = some q
theorem apart_ne {a b : Value} (h : Apart a b) : ∀ k, b.ownBlock = some k → ¬ (a.ownBlock = some k) := fun k h1 h2 => h k h2 h1
theorem markNode_any (id tm vo ro cm el wt : Int) (up : Bool) (lg : List En) (st vs nx mt : List Int) (la : Option Addr) (lc : Nat) (sa : Option Addr) (sc : Nat) (va : Option Addr) (vc : Nat) (na : Option Addr) (nc : Nat) (ma : Option Addr) (mc : Nat) (nl ns nv nn nm : Nat) (e0 : lg.length = nl) (e1 : st.length = ns) (e2 : vs.length = nv) (e3 : nx.length = nn) (e4 : mt.length = nm) (B : Nat) (w : World) (h : NoO B w (.slice la nl lc) (.slice sa ns sc) (.slice va nv vc) (.slice na nn nc) (.slice ma nm mc) lg st vs nx mt) (hB : B ≤ w.heap.size) (hs : NoS lg st vs nx mt) :
  Calls Tryz.prog 10 #[.agg #[.int .i64 id, .int .i64 tm, .int .i64 vo, .slice la nl lc, .slice sa ns sc, .int .i64 ro, .slice va nv vc, .slice na nn nc, .slice ma nm mc, .int .i64 cm, .int .i64 el, .int .i64 wt, .bool up], .int .i64 1] w fun e w' => e = .returned (.int .i64 (((1 + 3 * nl + ns + nv + nn + nm : Nat)) : Int)) ∧ NoO B w' (.slice la nl lc) (.slice sa ns sc) (.slice va nv vc) (.slice na nn nc) (.slice ma nm mc) (mkEs 1 nl) (marksJ (1 + 3 * nl) ns) (marksJ (1 + 3 * nl + ns) nv) (marksJ (1 + 3 * nl + ns + nv) nn) (marksJ (1 + 3 * nl + ns + nv + nn) nm) ∧ Touch (NoT [(.slice la nl lc), (.slice sa ns sc), (.slice va nv vc), (.slice na nn nc), (.slice ma nm mc)]) w w' := by
 have AP := h.ap
 simp only [List.pairwise_cons, List.mem_cons, List.not_mem_nil, or_false, forall_eq_or_imp, forall_eq, List.Pairwise.nil, and_true, false_implies, implies_true] at AP
 obtain ⟨⟨als, alv, aln, alm⟩, ⟨asv, asn, asm⟩, ⟨avn, avm⟩, anm⟩ := AP
 obtain ⟨z0, zd, z1, z2, z3, z4⟩ := hs
 have L0 := h.lg
 have L1 := h.st
 have L2 := h.vs
 have L3 := h.nx
 have L4 := h.mt
 have hap := h.ap
 have T0 := (Touch.refl (NoT [(.slice la nl lc), (.slice sa ns sc), (.slice va nv vc), (.slice na nn nc), (.slice ma nm mc)]) w).alloc (.cells #[.int .i64 id, .int .i64 tm, .int .i64 vo, .slice la nl lc, .slice sa ns sc, .int .i64 ro, .slice va nv vc, .slice na nn nc, .slice ma nm mc, .int .i64 cm, .int .i64 el, .int .i64 wt, .bool up] 38)
 have TF := (Touch.refl (fun _ => False) w).alloc (.cells #[.int .i64 id, .int .i64 tm, .int .i64 vo, .slice la nl lc, .slice sa ns sc, .int .i64 ro, .slice va nv vc, .slice na nn nc, .slice ma nm mc, .int .i64 cm, .int .i64 el, .int .i64 wt, .bool up] 38)
 have lt0 := World.ownsRow.lt L0
 have lt1 := L1.lt
 have lt2 := L2.lt
 have lt3 := L3.lt
 have lt4 := L4.lt
 have X0 := Blk.new w #[.int .i64 id, .int .i64 tm, .int .i64 vo, .slice la nl lc, .slice sa ns sc, .int .i64 ro, .slice va nv vc, .slice na nn nc, .slice ma nm mc, .int .i64 cm, .int .i64 el, .int .i64 wt, .bool up] 38 w.heap.size rfl
 have M0_0 := L0.kept TF (fun _ _ e => e)
 have M1_0 := L1.kept TF (fun _ _ e => e)
 have M2_0 := L2.kept TF (fun _ _ e => e)
 have M3_0 := L3.kept TF (fun _ _ e => e)
 have M4_0 := L4.kept TF (fun _ _ e => e)
 clear L0 L1 L2 L3 L4 h TF
 have HM0 := Hd M0_0
 have HM1 := Hd M1_0
 have HM2 := Hd M2_0
 have HM3 := Hd M3_0
 have HM4 := Hd M4_0
 have HX := Hd X0
 have HT := Hd T0
 have HA := Hd (And.intro als (And.intro alv (And.intro aln (And.intro alm (And.intro asv (And.intro asn (And.intro asm (And.intro avn (And.intro avm anm)))))))))
 have HLT := Hd (And.intro lt0 (And.intro lt1 (And.intro lt2 (And.intro lt3 lt4))))
 have HP := Hd hap
 clear M0_0 M1_0 M2_0 M3_0 M4_0 X0 T0 als alv aln alm asv asn asm avn avm anm lt0 lt1 lt2 lt3 lt4 hap
 go_enter Tryz.func10, Tryz.ntmps10
 go_wp2_with fail
 generalize w.alloc (.cells #[.int .i64 id, .int .i64 tm, .int .i64 vo, .slice la nl lc, .slice sa ns sc, .int .i64 ro, .slice va nv vc, .slice na nn nc, .slice ma nm mc, .int .i64 cm, .int .i64 el, .int .i64 wt, .bool up] 38) = w0 at *
 have HC := Hd (markEntryS_any 1 (by omega) (by omega) B _ lg w0 (uh HM0) z0)
 rw [e0] at HC
 refine (uh HC).mono ?_
 rintro e w1 ⟨rfl, hO, hT⟩
 have A_ := uh HA
 have lt_ := (uh HLT).1
 have hn_ : ((1 : Nat) : Int) + 3 * (nl : Int) = (((1 + 3 * nl) : Nat) : Int) := by push_cast; omega
 rw [hn_]
 have N1 := (uh HM1).kept hT (apart_ne A_.1)
 have N2 := (uh HM2).kept hT (apart_ne A_.2.1)
 have N3 := (uh HM3).kept hT (apart_ne A_.2.2.1)
 have N4 := (uh HM4).kept hT (apart_ne A_.2.2.2.1)
 have X_ := (uh HX).kept hT (fun e => by have := (lt_ _ e).2; omega)
 have T_ := (uh HT).trans hT (fun q hq e => ⟨_, by simp, e⟩)
 have xc := X_.cell 4 rfl
 clear HM0 HM1 HM2 HM3 HM4 HX HT HC
 have HM0 := Hd hO
 have HM1 := Hd N1
 have HM2 := Hd N2
 have HM3 := Hd N3
 have HM4 := Hd N4
 have HX := Hd X_
 have HT := Hd T_
 clear hO hT X_ T_ A_ lt_ hn_ N1 N2 N3 N4
 go_wp2_with fail
 clear xc
 have HC := Hd (markIntS_at (1 + 3 * nl) (by omega) (by omega) B _ st w1 (uh HM1) z1)
 rw [e1] at HC
 refine (uh HC).mono ?_
 rintro e w2 ⟨rfl, hO, hT⟩
 have A_ := uh HA
 have lt_ := (uh HLT).2.1
 have hn_ : (((1 + 3 * nl) : Nat) : Int) + (ns : Int) = (((1 + 3 * nl + ns) : Nat) : Int) := by push_cast; omega
 rw [hn_]
 have N0 := (uh HM0).kept hT (fun q h1 h2 => A_.1 q h1 h2)
 have N2 := (uh HM2).kept hT (apart_ne A_.2.2.2.2.1)
 have N3 := (uh HM3).kept hT (apart_ne A_.2.2.2.2.2.1)
 have N4 := (uh HM4).kept hT (apart_ne A_.2.2.2.2.2.2.1)
 have X_ := (uh HX).kept hT (fun e => by have := (lt_ _ e).2; omega)
 have T_ := (uh HT).trans hT (fun q hq e => ⟨_, by simp, e⟩)
 have xc := X_.cell 6 rfl
 clear HM0 HM1 HM2 HM3 HM4 HX HT HC
 have HM1 := Hd hO
 have HM0 := Hd N0
 have HM2 := Hd N2
 have HM3 := Hd N3
 have HM4 := Hd N4
 have HX := Hd X_
 have HT := Hd T_
 clear hO hT X_ T_ A_ lt_ hn_ N0 N2 N3 N4
 go_wp2_with fail
 clear xc
 have HC := Hd (markIntS_at (1 + 3 * nl + ns) (by omega) (by omega) B _ vs w2 (uh HM2) z2)
 rw [e2] at HC
 refine (uh HC).mono ?_
 rintro e w3 ⟨rfl, hO, hT⟩
 have A_ := uh HA
 have lt_ := (uh HLT).2.2.1
 have hn_ : (((1 + 3 * nl + ns) : Nat) : Int) + (nv : Int) = (((1 + 3 * nl + ns + nv) : Nat) : Int) := by push_cast; omega
 rw [hn_]
 have N0 := (uh HM0).kept hT (fun q h1 h2 => A_.2.1 q h1 h2)
 have N1 := (uh HM1).kept hT (fun q h1 h2 => A_.2.2.2.2.1 q h1 h2)
 have N3 := (uh HM3).kept hT (apart_ne A_.2.2.2.2.2.2.2.1)
 have N4 := (uh HM4).kept hT (apart_ne A_.2.2.2.2.2.2.2.2.1)
 have X_ := (uh HX).kept hT (fun e => by have := (lt_ _ e).2; omega)
 have T_ := (uh HT).trans hT (fun q hq e => ⟨_, by simp, e⟩)
 have xc := X_.cell 7 rfl
 clear HM0 HM1 HM2 HM3 HM4 HX HT HC
 have HM2 := Hd hO
 have HM0 := Hd N0
 have HM1 := Hd N1
 have HM3 := Hd N3
 have HM4 := Hd N4
 have HX := Hd X_
 have HT := Hd T_
 clear hO hT X_ T_ A_ lt_ hn_ N0 N1 N3 N4
 go_wp2_with fail
 clear xc
 have HC := Hd (markIntS_at (1 + 3 * nl + ns + nv) (by omega) (by omega) B _ nx w3 (uh HM3) z3)
 rw [e3] at HC
 refine (uh HC).mono ?_
 rintro e w4 ⟨rfl, hO, hT⟩
 have A_ := uh HA
 have lt_ := (uh HLT).2.2.2.1
 have hn_ : (((1 + 3 * nl + ns + nv) : Nat) : Int) + (nn : Int) = (((1 + 3 * nl + ns + nv + nn) : Nat) : Int) := by push_cast; omega
 rw [hn_]
 have N0 := (uh HM0).kept hT (fun q h1 h2 => A_.2.2.1 q h1 h2)
 have N1 := (uh HM1).kept hT (fun q h1 h2 => A_.2.2.2.2.2.1 q h1 h2)
 have N2 := (uh HM2).kept hT (fun q h1 h2 => A_.2.2.2.2.2.2.2.1 q h1 h2)
 have N4 := (uh HM4).kept hT (apart_ne A_.2.2.2.2.2.2.2.2.2)
 have X_ := (uh HX).kept hT (fun e => by have := (lt_ _ e).2; omega)
 have T_ := (uh HT).trans hT (fun q hq e => ⟨_, by simp, e⟩)
 have xc := X_.cell 8 rfl
 clear HM0 HM1 HM2 HM3 HM4 HX HT HC
 have HM3 := Hd hO
 have HM0 := Hd N0
 have HM1 := Hd N1
 have HM2 := Hd N2
 have HM4 := Hd N4
 have HX := Hd X_
 have HT := Hd T_
 clear hO hT X_ T_ A_ lt_ hn_ N0 N1 N2 N4
 go_wp2_with fail
 clear xc
 have HC := Hd (markIntS_at (1 + 3 * nl + ns + nv + nn) (by omega) (by omega) B _ mt w4 (uh HM4) z4)
 rw [e4] at HC
 refine (uh HC).mono ?_
 rintro e w5 ⟨rfl, hO, hT⟩
 have A_ := uh HA
 have lt_ := (uh HLT).2.2.2.2
 have hn_ : (((1 + 3 * nl + ns + nv + nn) : Nat) : Int) + (nm : Int) = (((1 + 3 * nl + ns + nv + nn + nm) : Nat) : Int) := by push_cast; omega
 rw [hn_]
 have N0 := (uh HM0).kept hT (fun q h1 h2 => A_.2.2.2.1 q h1 h2)
 have N1 := (uh HM1).kept hT (fun q h1 h2 => A_.2.2.2.2.2.2.1 q h1 h2)
 have N2 := (uh HM2).kept hT (fun q h1 h2 => A_.2.2.2.2.2.2.2.2.1 q h1 h2)
 have N3 := (uh HM3).kept hT (fun q h1 h2 => A_.2.2.2.2.2.2.2.2.2 q h1 h2)
 have X_ := (uh HX).kept hT (fun e => by have := (lt_ _ e).2; omega)
 have T_ := (uh HT).trans hT (fun q hq e => ⟨_, by simp, e⟩)
 clear HM0 HM1 HM2 HM3 HM4 HX HT HC
 have HM4 := Hd hO
 have HM0 := Hd N0
 have HM1 := Hd N1
 have HM2 := Hd N2
 have HM3 := Hd N3
 have HX := Hd X_
 have HT := Hd T_
 clear hO hT X_ T_ A_ lt_ hn_ N0 N1 N2 N3
 go_wp2_with fail
 go_ret
 refine ⟨rfl, ⟨uh HM0, ?_, ?_, ?_, ?_, uh HP⟩, uh HT⟩
 ·have := uh HM1; exact this
 ·have := uh HM2; exact this
 ·have := uh HM3; exact this
 ·have := uh HM4; exact this
end Go.Proofs.YtbchnheinnileaaGreatDoor
