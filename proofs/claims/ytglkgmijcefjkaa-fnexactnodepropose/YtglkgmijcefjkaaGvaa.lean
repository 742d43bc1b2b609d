/- (*actor).sendAll of (*actor).news, walked. A node's marks, laid and found again: laws.markNode, laws.heldNode. (Written by py/nodk.py.) (leader).add, walked. (Written by py/npj.py.) A type switch on a concrete struct type. (*actor).role, (*actor).propose, walked. (Written by py/npk.py.) A node, as data. What a proposal tells, purely; a node and messages come out of a call. impl.NodePropose, walked. (Written by py/npl.py.) spec.l10Own, walked. (Written by py/nodl.py.) -/
import Derived.Test.YtglkgmijcefjkaaNpH
import Derived.Test.YtglkgmijcefjkaaNodM
import Derived.Test.YtglkgmijcefjkaaNod
import Derived.Test.YtglkgmijcefjkaaStM
import Derived.Test.YtglkgmijcefjkaaMarkJ
import Derived.Test.YtglkgmijcefjkaaNpF
import Derived.Test.YtglkgmijcefjkaaSta
import Derived.Test.YtglkgmijcefjkaaNodQ
import Derived.Test.YtglkgmijcefjkaaNodC
import Derived.Deep.Cut
namespace Go.Proofs.Ytglkgmijcefjkaa
open Go.ChangeShapes Go.WideShapes Go.ChangeAt Go.RowKit Go.Deep
set_option linter.unusedVariables false
set_option linter.unusedSimpArgs false

theorem Ens.kept {T : Nat → Prop} {w w' : World} {v : Value} {l : List En} (h : Ens w v l) (ht : Touch T w w') (hn : ∀ k, v.ownBlock = some k → ¬ T k) : Ens w' v l := by
  obtain ⟨a, cap, rfl, hn', hm, hc⟩ := h
  refine ⟨a, cap, rfl, hn', hm, ?_⟩
  rcases hc with h0 | ⟨b, off, rfl, hlt, hc⟩
  · exact .inl h0
  · exact .inr ⟨b, off, rfl, Nat.lt_of_lt_of_le hlt ht.size, fun i hi => ⟨(ht.cell (p := ⟨b, off + i * 3, none⟩) hlt (hn b rfl)).trans (hc i hi).1, (ht.cell (p := ⟨b, off + i * 3 + 1, none⟩) hlt (hn b rfl)).trans (hc i hi).2.1, (ht.cell (p := ⟨b, off + i * 3 + 2, none⟩) hlt (hn b rfl)).trans (hc i hi).2.2⟩⟩
set_option maxRecDepth 100000 in
set_option maxHeartbeats 2000000 in
theorem sendNews_any (B b : Nat) (id tm vo ro cm el wt : Int) (up : Bool) (lg : List En) (st vs nx mt : List Int) (la : Option Addr) (lc : Nat) (sa : Option Addr) (sc : Nat) (va : Option Addr) (vc : Nat) (na : Option Addr) (nc : Nat) (ma : Option Addr) (mc : Nat) (w : World) (hX : Blk w b [.int .i64 id, .int .i64 tm, .int .i64 vo, .slice la lg.length lc, .slice sa st.length sc, .int .i64 ro, .slice va vs.length vc, .slice na nx.length nc, .slice ma mt.length mc, .int .i64 cm, .int .i64 el, .int .i64 wt, .bool up, .slice none 0 0]) (hE : Ens w (.slice la lg.length lc) lg) (hEb : (Value.slice la lg.length lc).ownBlock ≠ some b) (hS : OwnI B w (.slice sa st.length sc) st) (hB : B ≤ w.heap.size) (hSb : (Value.slice sa st.length sc).ownBlock ≠ some b) (hN : Ints w (.slice na nx.length nc) nx) (hNb : (Value.slice na nx.length nc).ownBlock ≠ some b) (hz : ∀ i, (lg.getD i default).d.size ≤ maxLen) (hl : lg.length ≤ 60) (hg : CfgOK lg) (hx : nx.length = 7) (hmb : (mbAt lg st lg.length).length ≤ 7) (hd : ∀ d ∈ mbAt lg st lg.length, 0 ≤ d ∧ d < 7 ∧ (d ≠ id → 1 ≤ nx.getD d.toNat 0 ∧ nx.getD d.toNat 0 ≤ (lg.length : Int) + 1)) :
    Calls Try.prog 68 #[.pointer (some ⟨b, 0, none⟩), .func (.func 69) #[.pointer (some ⟨b, 0, none⟩)] #[]] w fun e w' => (∃ v, e = .returned v) ∧ ∃ v l, Blk w' b [.int .i64 id, .int .i64 tm, .int .i64 vo, .slice la lg.length lc, .slice sa st.length sc, .int .i64 ro, .slice va vs.length vc, .slice na nx.length nc, .slice ma mt.length mc, .int .i64 cm, .int .i64 el, .int .i64 wt, .bool up, v] ∧ Ns mgS w.heap.size w' v l.length l ∧ l.map bareM = tellL id tm cm lg nx (mbAt lg st lg.length) ∧ Touch (fun k => k = b) w w' := by
  have hbw := hX.1
  have HMem := hide (members2_any B b la lc sa sc lg st hz (by omega) hg w hbw (hX.cell 3 rfl) (hX.cell 4 rfl) hE hS hB)
  have HX := hide hX
  have HNw := hide (fun wx sv (d p : Nat) (hx' : Touch (fun k => k = b) w wx) (hbk : Blk wx b [.int .i64 id, .int .i64 tm, .int .i64 vo, .slice la lg.length lc, .slice sa st.length sc, .int .i64 ro, .slice va vs.length vc, .slice na nx.length nc, .slice ma mt.length mc, .int .i64 cm, .int .i64 el, .int .i64 wt, .bool up, sv]) (hd7 : d < 7) (hp : nx.getD d 0 = (p : Int) + 1) (hpl : p ≤ lg.length) => news_any b d p cm la lc na nc lg nx wx hbk.1 (hbk.cell 3 rfl) (hbk.cell 7 rfl) (hbk.cell 9 rfl) (hE.kept hx' (fun k hk e => hEb (by rw [hk, e]))) (hN.kept hx' (fun k hk e => hNb (by rw [hk, e]))) hl hx hd7 hp hpl)
  generalize hmbE : mbAt lg st lg.length = mb at *
  have HD := hide hd
  have HSB := hide hSb
  clear hX hE hEb hS hB hSb hN hNb hz hg hx hmbE hd
  go_enter Try.func68, Try.ntmps68
  go_wp2_with fail
  refine (unhide HMem).mono ?_
  rintro e w1 ⟨v, rfl, hv, hb1, hor⟩
  have hvne : v.ownBlock ≠ some b := fun e => by
    rcases hor with rfl | h
    · exact unhide HSB e
    · have := h b e; omega
  obtain ⟨av, cv, rfl, hmv, hcv⟩ := hv.ints
  have HCV := hide hcv
  have HB1 := hide hb1
  have X1 := hide ((unhide HX).below hb1)
  have hs1 := hb1.size
  have hvb : b < w1.heap.size := by omega
  have HVN := hide hvne
  clear hcv hmv hb1 HMem hor hv hvne HX HSB
  go_wp2_with fail
  go_loopw [9] (fun i wr => ∃ (k : Nat) (sv : Value) (l : List MV), k ≤ mb.length ∧ i = .int .i64 (k : Int) ∧ l.length ≤ k ∧ Hid (Blk wr b [.int .i64 id, .int .i64 tm, .int .i64 vo, .slice la lg.length lc, .slice sa st.length sc, .int .i64 ro, .slice va vs.length vc, .slice na nx.length nc, .slice ma mt.length mc, .int .i64 cm, .int .i64 el, .int .i64 wt, .bool up, sv]) ∧ Hid (Ns mgS w1.heap.size wr sv l.length l) ∧ Hid (l.map bareM = tellL id tm cm lg nx (mb.take k)) ∧ Hid (Touch (fun q => q = b) w1 wr)) (fun i _ => mb.length - (intOf i).toNat)
  case atStart => exact ⟨0, .slice none 0 0, [], Nat.zero_le _, rfl, Nat.le_refl _, X1, hide (Ns.nil _ _ _), hide rfl, hide (Touch.refl _ _)⟩
  case round =>
    obtain ⟨k, sv, l, hk, rfl, hlk, XR, NR, LR, TR⟩ := hrel
    have hrs := (unhide TR).size
    have x0 := (unhide XR).cell 0 rfl
    have TW := hide ((Touch.ofBelow (T := fun q => q = b) (unhide HB1)).trans (T' := fun q => q = b) (unhide TR) (fun _ _ e => e))
    by_cases hlt : k < mb.length
    · obtain ⟨bq, off, rfl, hbl, hsrc⟩ : ∃ b off, av = some ⟨b, off, none⟩ ∧ b < w1.heap.size ∧ ∀ i, i < mb.length → w1.cell? ⟨b, off + i, none⟩ = some (.int .i64 (mb.getD i 0)) := by
        rcases unhide HCV with h0 | h1
        · omega
        · exact h1
      have hbn : ¬ bq = b := fun e => unhide HVN (by rw [e]; rfl)
      have c0 := ((unhide TR).cell (p := ⟨bq, off + k, none⟩) hbl hbn).trans (hsrc k hlt)
      have hdk := unhide HD (mb.getD k 0) (by rw [List.getD_eq_getElem?_getD, List.getElem?_eq_getElem hlt]; simp)
      have HSk := hide (tellL_skip id tm cm lg nx mb k hlt)
      have HNe := hide (tellL_next id tm cm lg nx mb k hlt)
      clear hsrc
      generalize mb.getD k 0 = z at *
      obtain ⟨hz0, hz7, hz1⟩ := hdk
      obtain ⟨d, rfl⟩ : ∃ d : Nat, z = (d : Int) := ⟨z.toNat, by omega⟩
      have q0 : (0 : Int) ≤ (k : Int) := by omega
      have q1 : (k : Int) < (mb.length : Int) := by omega
      have q2 : IntKind.i64.wrap ((k : Int) + 1) = (k : Int) + 1 := wrapSm _ (by omega) (by omega)
      by_cases hdi : (d : Int) = id
      · have HS2 := hide (unhide HSk hdi)
        have h3 : decide ((d : Int) = id) = true := decide_eq_true hdi
        have h4 : ((d : Int) == id) = true := by rw [hdi]; simp
        have h5 : ((d : Int) != id) = false := by simp [bne, h4]
        clear hz1 HNe HSk hdi
        go_wp2_with fail
        refine ⟨⟨k + 1, sv, l, by omega, by go_num, by omega, XR, NR, hide (by rw [unhide HS2]; exact unhide LR), TR⟩, ?_⟩
        simp [intOf] <;> omega
      · have HN2 := hide (unhide HNe hdi)
        obtain ⟨hz1, hz2⟩ := hz1 hdi
        rw [Int.toNat_natCast] at hz1 hz2
        obtain ⟨p, hp⟩ : ∃ p : Nat, nx.getD d 0 = (p : Int) + 1 := ⟨(nx.getD d 0 - 1).toNat, by omega⟩
        have hpl : p ≤ lg.length := by omega
        have HC := hide (unhide HNw wr sv d p (unhide TW) (unhide XR) (by omega) hp hpl)
        have HT1 := hide (fun ev => tell_one id tm cm lg nx d p ev hp)
        have h3 : decide ((d : Int) = id) = false := decide_eq_false hdi
        have h4 : ((d : Int) == id) = false := by rw [beq_eq_false_iff_ne]; exact hdi
        have h5 : ((d : Int) != id) = true := by simp [bne, h4]
        clear hz1 hz2 hp HNe HSk
        go_wp2_with fail
        refine (unhide HC).mono ?_
        rintro e w3 ⟨a5, c5, rfl, hO5, hb3⟩
        have X3 := (unhide XR).below hb3
        have HC2 := hide (send_any b w1.heap.size id tm 3 0 (d : Int) 0 (p : Int) (termP lg p) cm false a5 (lg.drop p).length c5 (lg.drop p) [.int .i64 id, .int .i64 tm, .int .i64 vo, .slice la lg.length lc, .slice sa st.length sc, .int .i64 ro, .slice va vs.length vc, .slice na nx.length nc, .slice ma mt.length mc, .int .i64 cm, .int .i64 el, .int .i64 wt, .bool up, sv] sv l wr w3 X3 rfl rfl rfl hvb hrs (unhide NR) hb3 hO5 (by omega))
        have HB3 := hide hb3
        clear hO5 hb3 X3 HC x0
        generalize termP lg p = tp at *
        generalize hdn : (lg.drop p).length = dn at *
        have HDN := hide hdn
        clear hdn
        go_wp2_with fail
        refine (unhide HC2).mono ?_
        rintro e w4 ⟨⟨v9, rfl⟩, v', hX4, hN4, hT4⟩
        simp only [List.set_cons_succ, List.set_cons_zero] at hX4
        have X4 := hide hX4
        have N4 := hide hN4
        have T4 := hide (((unhide TR).trans (T' := fun _ => False) (Touch.ofBelow (unhide HB3)) (fun _ _ e => e.elim)).trans hT4 (fun j hj e => by rcases e with e | e <;> omega))
        clear hX4 hN4 hT4 HC2 HB3
        go_wp2_with fail
        refine ⟨⟨k + 1, v', _, by omega, by go_num, ?_, X4, N4, hide ?_, T4⟩, ?_⟩
        · simp; omega
        · rw [List.map_append, unhide LR, unhide HN2, List.map_cons, List.map_nil]
          congr 2
          exact (unhide HT1 _)
        · simp [intOf] <;> omega
    · obtain rfl : k = mb.length := by omega
      have q1 : ¬ (mb.length : Int) < (mb.length : Int) := by omega
      have h := unhide LR
      rw [List.take_length] at h
      have HL := hide h
      clear h LR
      go_wp2_with fail
      go_end0
      first
        | exact ⟨⟨_, rfl⟩, sv, l, unhide XR, (unhide NR).down hs1, unhide HL, unhide TW⟩
        | exact ⟨⟨_, rfl⟩, sv, unhide XR, l, (unhide NR).down hs1, unhide HL, unhide TW⟩
end Go.Proofs.Ytglkgmijcefjkaa
namespace Go.Proofs.Ytglkgmijcefjkaa
open Go.ChangeShapes Go.WideShapes Go.ChangeAt Go.RowKit Go.Deep
set_option linter.unusedVariables false

/-- The blocks of a node's lists. -/
def NoT (vs : List Value) (q : Nat) : Prop := ∃ v ∈ vs, v.ownBlock = some q
theorem apart_ne {a b : Value} (h : Apart a b) : ∀ k, b.ownBlock = some k → ¬ (a.ownBlock = some k) := fun k h1 h2 => h k h2 h1
set_option maxRecDepth 100000 in
set_option maxHeartbeats 4000000 in
theorem markNode_any (id tm vo ro cm el wt : Int) (up : Bool) (lg : List En) (st vs nx mt : List Int) (la : Option Addr) (lc : Nat) (sa : Option Addr) (sc : Nat) (va : Option Addr) (vc : Nat) (na : Option Addr) (nc : Nat) (ma : Option Addr) (mc : Nat) (nl ns nv nn nm : Nat) (e0 : lg.length = nl) (e1 : st.length = ns) (e2 : vs.length = nv) (e3 : nx.length = nn) (e4 : mt.length = nm) (B : Nat) (w : World) (h : NoO B w (.slice la nl lc) (.slice sa ns sc) (.slice va nv vc) (.slice na nn nc) (.slice ma nm mc) lg st vs nx mt) (hB : B ≤ w.heap.size) (hs : NoS lg st vs nx mt) :
    Calls Try.prog 11 #[.agg #[.int .i64 id, .int .i64 tm, .int .i64 vo, .slice la nl lc, .slice sa ns sc, .int .i64 ro, .slice va nv vc, .slice na nn nc, .slice ma nm mc, .int .i64 cm, .int .i64 el, .int .i64 wt, .bool up], .int .i64 1] w fun e w' => e = .returned (.int .i64 (((1 + 3 * nl + ns + nv + nn + nm : Nat)) : Int)) ∧ NoO B w' (.slice la nl lc) (.slice sa ns sc) (.slice va nv vc) (.slice na nn nc) (.slice ma nm mc) (mkEs 1 nl) (marksJ (1 + 3 * nl) ns) (marksJ (1 + 3 * nl + ns) nv) (marksJ (1 + 3 * nl + ns + nv) nn) (marksJ (1 + 3 * nl + ns + nv + nn) nm) ∧ Touch (NoT [(.slice la nl lc), (.slice sa ns sc), (.slice va nv vc), (.slice na nn nc), (.slice ma nm mc)]) w w' := by
  have AP := h.ap
  simp only [List.pairwise_cons, List.mem_cons, List.not_mem_nil, or_false, forall_eq_or_imp, forall_eq, List.Pairwise.nil, and_true, false_implies, implies_true] at AP
  obtain ⟨⟨als, alv, aln, alm⟩, ⟨asv, asn, asm⟩, ⟨avn, avm⟩, anm⟩ := AP
  obtain ⟨z0, zd, z1, z2, z3, z4⟩ := hs
  have L0 := h.lg
  have L1 := h.st
  have L2 := h.vs
  have L3 := h.nx
  have L4 := h.mt
  have hap := h.ap
  have T0 := (Touch.refl (NoT [(.slice la nl lc), (.slice sa ns sc), (.slice va nv vc), (.slice na nn nc), (.slice ma nm mc)]) w).alloc (.cells #[.int .i64 id, .int .i64 tm, .int .i64 vo, .slice la nl lc, .slice sa ns sc, .int .i64 ro, .slice va nv vc, .slice na nn nc, .slice ma nm mc, .int .i64 cm, .int .i64 el, .int .i64 wt, .bool up] 29)
  have TF := (Touch.refl (fun _ => False) w).alloc (.cells #[.int .i64 id, .int .i64 tm, .int .i64 vo, .slice la nl lc, .slice sa ns sc, .int .i64 ro, .slice va nv vc, .slice na nn nc, .slice ma nm mc, .int .i64 cm, .int .i64 el, .int .i64 wt, .bool up] 29)
  have lt0 := World.ownsRow.lt L0
  have lt1 := L1.lt
  have lt2 := L2.lt
  have lt3 := L3.lt
  have lt4 := L4.lt
  have X0 := Blk.new w #[.int .i64 id, .int .i64 tm, .int .i64 vo, .slice la nl lc, .slice sa ns sc, .int .i64 ro, .slice va nv vc, .slice na nn nc, .slice ma nm mc, .int .i64 cm, .int .i64 el, .int .i64 wt, .bool up] 29 w.heap.size rfl
  have M0_0 := L0.kept TF (fun _ _ e => e)
  have M1_0 := L1.kept TF (fun _ _ e => e)
  have M2_0 := L2.kept TF (fun _ _ e => e)
  have M3_0 := L3.kept TF (fun _ _ e => e)
  have M4_0 := L4.kept TF (fun _ _ e => e)
  clear L0 L1 L2 L3 L4 h TF
  have HM0 := hide M0_0
  have HM1 := hide M1_0
  have HM2 := hide M2_0
  have HM3 := hide M3_0
  have HM4 := hide M4_0
  have HX := hide X0
  have HT := hide T0
  have HA := hide (And.intro als (And.intro alv (And.intro aln (And.intro alm (And.intro asv (And.intro asn (And.intro asm (And.intro avn (And.intro avm anm)))))))))
  have HLT := hide (And.intro lt0 (And.intro lt1 (And.intro lt2 (And.intro lt3 lt4))))
  have HP := hide hap
  clear M0_0 M1_0 M2_0 M3_0 M4_0 X0 T0 als alv aln alm asv asn asm avn avm anm lt0 lt1 lt2 lt3 lt4 hap
  go_enter Try.func11, Try.ntmps11
  go_wp2_with fail
  generalize w.alloc (.cells #[.int .i64 id, .int .i64 tm, .int .i64 vo, .slice la nl lc, .slice sa ns sc, .int .i64 ro, .slice va nv vc, .slice na nn nc, .slice ma nm mc, .int .i64 cm, .int .i64 el, .int .i64 wt, .bool up] 29) = w0 at *
  have HC := hide (markEntryS_any 1 (by omega) (by omega) B _ lg w0 (unhide HM0) z0)
  rw [e0] at HC
  refine (unhide HC).mono ?_
  rintro e w1 ⟨rfl, hO, hT⟩
  have A_ := unhide HA
  have lt_ := (unhide HLT).1
  have hn_ : ((1 : Nat) : Int) + 3 * (nl : Int) = (((1 + 3 * nl) : Nat) : Int) := by push_cast; omega
  rw [hn_]
  have N1 := (unhide HM1).kept hT (apart_ne A_.1)
  have N2 := (unhide HM2).kept hT (apart_ne A_.2.1)
  have N3 := (unhide HM3).kept hT (apart_ne A_.2.2.1)
  have N4 := (unhide HM4).kept hT (apart_ne A_.2.2.2.1)
  have X_ := (unhide HX).kept hT (fun e => by have := (lt_ _ e).2; omega)
  have T_ := (unhide HT).trans hT (fun q hq e => ⟨_, by simp, e⟩)
  have xc := X_.cell 4 rfl
  clear HM0 HM1 HM2 HM3 HM4 HX HT HC
  have HM0 := hide hO
  have HM1 := hide N1
  have HM2 := hide N2
  have HM3 := hide N3
  have HM4 := hide N4
  have HX := hide X_
  have HT := hide T_
  clear hO hT X_ T_ A_ lt_ hn_ N1 N2 N3 N4
  go_wp2_with fail
  clear xc
  have HC := hide (markIntS_at (1 + 3 * nl) (by omega) (by omega) B _ st w1 (unhide HM1) z1)
  rw [e1] at HC
  refine (unhide HC).mono ?_
  rintro e w2 ⟨rfl, hO, hT⟩
  have A_ := unhide HA
  have lt_ := (unhide HLT).2.1
  have hn_ : (((1 + 3 * nl) : Nat) : Int) + (ns : Int) = (((1 + 3 * nl + ns) : Nat) : Int) := by push_cast; omega
  rw [hn_]
  have N0 := (unhide HM0).kept hT (fun q h1 h2 => A_.1 q h1 h2)
  have N2 := (unhide HM2).kept hT (apart_ne A_.2.2.2.2.1)
  have N3 := (unhide HM3).kept hT (apart_ne A_.2.2.2.2.2.1)
  have N4 := (unhide HM4).kept hT (apart_ne A_.2.2.2.2.2.2.1)
  have X_ := (unhide HX).kept hT (fun e => by have := (lt_ _ e).2; omega)
  have T_ := (unhide HT).trans hT (fun q hq e => ⟨_, by simp, e⟩)
  have xc := X_.cell 6 rfl
  clear HM0 HM1 HM2 HM3 HM4 HX HT HC
  have HM1 := hide hO
  have HM0 := hide N0
  have HM2 := hide N2
  have HM3 := hide N3
  have HM4 := hide N4
  have HX := hide X_
  have HT := hide T_
  clear hO hT X_ T_ A_ lt_ hn_ N0 N2 N3 N4
  go_wp2_with fail
  clear xc
  have HC := hide (markIntS_at (1 + 3 * nl + ns) (by omega) (by omega) B _ vs w2 (unhide HM2) z2)
  rw [e2] at HC
  refine (unhide HC).mono ?_
  rintro e w3 ⟨rfl, hO, hT⟩
  have A_ := unhide HA
  have lt_ := (unhide HLT).2.2.1
  have hn_ : (((1 + 3 * nl + ns) : Nat) : Int) + (nv : Int) = (((1 + 3 * nl + ns + nv) : Nat) : Int) := by push_cast; omega
  rw [hn_]
  have N0 := (unhide HM0).kept hT (fun q h1 h2 => A_.2.1 q h1 h2)
  have N1 := (unhide HM1).kept hT (fun q h1 h2 => A_.2.2.2.2.1 q h1 h2)
  have N3 := (unhide HM3).kept hT (apart_ne A_.2.2.2.2.2.2.2.1)
  have N4 := (unhide HM4).kept hT (apart_ne A_.2.2.2.2.2.2.2.2.1)
  have X_ := (unhide HX).kept hT (fun e => by have := (lt_ _ e).2; omega)
  have T_ := (unhide HT).trans hT (fun q hq e => ⟨_, by simp, e⟩)
  have xc := X_.cell 7 rfl
  clear HM0 HM1 HM2 HM3 HM4 HX HT HC
  have HM2 := hide hO
  have HM0 := hide N0
  have HM1 := hide N1
  have HM3 := hide N3
  have HM4 := hide N4
  have HX := hide X_
  have HT := hide T_
  clear hO hT X_ T_ A_ lt_ hn_ N0 N1 N3 N4
  go_wp2_with fail
  clear xc
  have HC := hide (markIntS_at (1 + 3 * nl + ns + nv) (by omega) (by omega) B _ nx w3 (unhide HM3) z3)
  rw [e3] at HC
  refine (unhide HC).mono ?_
  rintro e w4 ⟨rfl, hO, hT⟩
  have A_ := unhide HA
  have lt_ := (unhide HLT).2.2.2.1
  have hn_ : (((1 + 3 * nl + ns + nv) : Nat) : Int) + (nn : Int) = (((1 + 3 * nl + ns + nv + nn) : Nat) : Int) := by push_cast; omega
  rw [hn_]
  have N0 := (unhide HM0).kept hT (fun q h1 h2 => A_.2.2.1 q h1 h2)
  have N1 := (unhide HM1).kept hT (fun q h1 h2 => A_.2.2.2.2.2.1 q h1 h2)
  have N2 := (unhide HM2).kept hT (fun q h1 h2 => A_.2.2.2.2.2.2.2.1 q h1 h2)
  have N4 := (unhide HM4).kept hT (apart_ne A_.2.2.2.2.2.2.2.2.2)
  have X_ := (unhide HX).kept hT (fun e => by have := (lt_ _ e).2; omega)
  have T_ := (unhide HT).trans hT (fun q hq e => ⟨_, by simp, e⟩)
  have xc := X_.cell 8 rfl
  clear HM0 HM1 HM2 HM3 HM4 HX HT HC
  have HM3 := hide hO
  have HM0 := hide N0
  have HM1 := hide N1
  have HM2 := hide N2
  have HM4 := hide N4
  have HX := hide X_
  have HT := hide T_
  clear hO hT X_ T_ A_ lt_ hn_ N0 N1 N2 N4
  go_wp2_with fail
  clear xc
  have HC := hide (markIntS_at (1 + 3 * nl + ns + nv + nn) (by omega) (by omega) B _ mt w4 (unhide HM4) z4)
  rw [e4] at HC
  refine (unhide HC).mono ?_
  rintro e w5 ⟨rfl, hO, hT⟩
  have A_ := unhide HA
  have lt_ := (unhide HLT).2.2.2.2
  have hn_ : (((1 + 3 * nl + ns + nv + nn) : Nat) : Int) + (nm : Int) = (((1 + 3 * nl + ns + nv + nn + nm) : Nat) : Int) := by push_cast; omega
  rw [hn_]
  have N0 := (unhide HM0).kept hT (fun q h1 h2 => A_.2.2.2.1 q h1 h2)
  have N1 := (unhide HM1).kept hT (fun q h1 h2 => A_.2.2.2.2.2.2.1 q h1 h2)
  have N2 := (unhide HM2).kept hT (fun q h1 h2 => A_.2.2.2.2.2.2.2.2.1 q h1 h2)
  have N3 := (unhide HM3).kept hT (fun q h1 h2 => A_.2.2.2.2.2.2.2.2.2 q h1 h2)
  have X_ := (unhide HX).kept hT (fun e => by have := (lt_ _ e).2; omega)
  have T_ := (unhide HT).trans hT (fun q hq e => ⟨_, by simp, e⟩)
  clear HM0 HM1 HM2 HM3 HM4 HX HT HC
  have HM4 := hide hO
  have HM0 := hide N0
  have HM1 := hide N1
  have HM2 := hide N2
  have HM3 := hide N3
  have HX := hide X_
  have HT := hide T_
  clear hO hT X_ T_ A_ lt_ hn_ N0 N1 N2 N3
  go_wp2_with fail
  go_ret
  refine ⟨rfl, ⟨unhide HM0, ?_, ?_, ?_, ?_, unhide HP⟩, unhide HT⟩
  · have := unhide HM1; exact this
  · have := unhide HM2; exact this
  · have := unhide HM3; exact this
  · have := unhide HM4; exact this
set_option maxRecDepth 100000 in
set_option maxHeartbeats 4000000 in
theorem heldNode_any (id tm vo ro cm el wt : Int) (up : Bool) (la : Option Addr) (lc : Nat) (sa : Option Addr) (sc : Nat) (va : Option Addr) (vc : Nat) (na : Option Addr) (nc : Nat) (ma : Option Addr) (mc : Nat) (nl ns nv nn nm : Nat) (B : Nat) (w : World) (h : NoO B w (.slice la nl lc) (.slice sa ns sc) (.slice va nv vc) (.slice na nn nc) (.slice ma nm mc) (mkEs 1 nl) (marksJ (1 + 3 * nl) ns) (marksJ (1 + 3 * nl + ns) nv) (marksJ (1 + 3 * nl + ns + nv) nn) (marksJ (1 + 3 * nl + ns + nv + nn) nm)) (z0 : nl ≤ 1048576) (z1 : ns ≤ 1048576) (z2 : nv ≤ 1048576) (z3 : nn ≤ 1048576) (z4 : nm ≤ 1048576) :
    Calls Try.prog 13 #[.agg #[.int .i64 id, .int .i64 tm, .int .i64 vo, .slice la nl lc, .slice sa ns sc, .int .i64 ro, .slice va nv vc, .slice na nn nc, .slice ma nm mc, .int .i64 cm, .int .i64 el, .int .i64 wt, .bool up], .int .i64 1] w fun e w' => e = .returned (.int .i64 (((1 + 3 * nl + ns + nv + nn + nm : Nat)) : Int)) ∧ Below w.heap.size w w' := by
  have B0 := hide ((Below.refl w.heap.size w).alloc (Nat.le_refl _) (.cells #[.int .i64 id, .int .i64 tm, .int .i64 vo, .slice la nl lc, .slice sa ns sc, .int .i64 ro, .slice va nv vc, .slice na nn nc, .slice ma nm mc, .int .i64 cm, .int .i64 el, .int .i64 wt, .bool up] 29))
  have X0 := hide (Blk.new w #[.int .i64 id, .int .i64 tm, .int .i64 vo, .slice la nl lc, .slice sa ns sc, .int .i64 ro, .slice va nv vc, .slice na nn nc, .slice ma nm mc, .int .i64 cm, .int .i64 el, .int .i64 wt, .bool up] 29 w.heap.size rfl)
  have HH := hide (h.below (unhide B0))
  clear h
  go_enter Try.func13, Try.ntmps13
  go_wp2_with fail
  generalize w.alloc (.cells #[.int .i64 id, .int .i64 tm, .int .i64 vo, .slice la nl lc, .slice sa ns sc, .int .i64 ro, .slice va nv vc, .slice na nn nc, .slice ma nm mc, .int .i64 cm, .int .i64 el, .int .i64 wt, .bool up] 29) = w0 at *
  have HC := hide (heldEntryS_any 1 (by omega) (by omega) B _ nl w0 (unhide HH).lg z0)
  refine (unhide HC).mono ?_
  rintro e w1 ⟨rfl, hb⟩
  have K1 := hide ((unhide B0).trans (hb.mono (unhide B0).size))
  have X1 := (unhide X0).below hb
  have H1 := hide ((unhide HH).below hb)
  have hn_ : ((1 : Nat) : Int) + 3 * (nl : Int) = (((1 + 3 * nl) : Nat) : Int) := by push_cast; omega
  rw [hn_]
  have x4 := X1.cell 4 rfl
  have x6 := X1.cell 6 rfl
  have x7 := X1.cell 7 rfl
  have x8 := X1.cell 8 rfl
  clear hb X1 B0 X0 HH HC hn_
  have p1 : ¬ ((((1 + 3 * nl) : Nat) : Int) < 0) := by omega
  have HC := hide (heldIntS_at (1 + 3 * nl) (by omega) (by omega) B _ ns w1 (unhide H1).st z1)
  go_wp2_with fail
  refine (unhide HC).mono ?_
  rintro e w' ⟨rfl, hw'⟩
  have hw2 := hw'.symm
  clear hw'
  subst hw2
  have hn_ : (((1 + 3 * nl) : Nat) : Int) + (ns : Int) = (((1 + 3 * nl + ns) : Nat) : Int) := by push_cast; omega
  rw [hn_]
  clear HC hn_ p1
  have p2 : ¬ ((((1 + 3 * nl + ns) : Nat) : Int) < 0) := by omega
  have HC := hide (heldIntS_at (1 + 3 * nl + ns) (by omega) (by omega) B _ nv w1 (unhide H1).vs z2)
  go_wp2_with fail
  refine (unhide HC).mono ?_
  rintro e w' ⟨rfl, hw'⟩
  have hw2 := hw'.symm
  clear hw'
  subst hw2
  have hn_ : (((1 + 3 * nl + ns) : Nat) : Int) + (nv : Int) = (((1 + 3 * nl + ns + nv) : Nat) : Int) := by push_cast; omega
  rw [hn_]
  clear HC hn_ p2
  have p3 : ¬ ((((1 + 3 * nl + ns + nv) : Nat) : Int) < 0) := by omega
  have HC := hide (heldIntS_at (1 + 3 * nl + ns + nv) (by omega) (by omega) B _ nn w1 (unhide H1).nx z3)
  go_wp2_with fail
  refine (unhide HC).mono ?_
  rintro e w' ⟨rfl, hw'⟩
  have hw2 := hw'.symm
  clear hw'
  subst hw2
  have hn_ : (((1 + 3 * nl + ns + nv) : Nat) : Int) + (nn : Int) = (((1 + 3 * nl + ns + nv + nn) : Nat) : Int) := by push_cast; omega
  rw [hn_]
  clear HC hn_ p3
  have p4 : ¬ ((((1 + 3 * nl + ns + nv + nn) : Nat) : Int) < 0) := by omega
  have HC := hide (heldIntS_at (1 + 3 * nl + ns + nv + nn) (by omega) (by omega) B _ nm w1 (unhide H1).mt z4)
  go_wp2_with fail
  refine (unhide HC).mono ?_
  rintro e w' ⟨rfl, hw'⟩
  have hw2 := hw'.symm
  clear hw'
  subst hw2
  have hn_ : (((1 + 3 * nl + ns + nv + nn) : Nat) : Int) + (nm : Int) = (((1 + 3 * nl + ns + nv + nn + nm) : Nat) : Int) := by push_cast; omega
  rw [hn_]
  clear HC hn_ p4
  have p5 : ¬ ((((1 + 3 * nl + ns + nv + nn + nm) : Nat) : Int) < 0) := by omega
  go_wp2_with fail
  go_ret
  exact ⟨rfl, unhide K1⟩
end Go.Proofs.Ytglkgmijcefjkaa
namespace Go.Proofs.Ytglkgmijcefjkaa
open Go.ChangeShapes Go.WideShapes Go.ChangeAt Go.RowKit Go.Deep
set_option linter.unusedVariables false
set_option linter.unusedSimpArgs false

theorem hasN_le (l : List Int) : ∀ k, hasN l k ≤ k
  | 0 => Nat.le_refl _
  | k + 1 => by have := hasN_le l k; simp only [hasN]; split <;> omega
theorem mb_seven (lg : List En) (st : List Int) (hg : CfgOK lg) (hs : mFault st = 0) : (mbAt lg st lg.length).length ≤ 7 ∧ ∀ d ∈ mbAt lg st lg.length, 0 ≤ d ∧ d < 7 := by
  have h := fault_ids (mb_fault lg st hg hs lg.length (Nat.le_refl _))
  have hm := inAll_mem h.1
  refine ⟨?_, fun d hd => ⟨(hm d hd).1, by have := (hm d hd).2; omega⟩⟩
  rw [hasN_all (rising_nodup h.2) (fun x hx => (hm x hx).1) (fun x hx => (hm x hx).2)]
  exact hasN_le _ _
theorem getD_push (lg : List En) (e : En) (i : Nat) : (lg ++ [e]).getD i default = if i < lg.length then lg.getD i default else if i = lg.length then e else default := by
  rw [List.getD_eq_getElem?_getD]
  by_cases h : i < lg.length
  · rw [if_pos h, List.getElem?_append_left h, List.getD_eq_getElem?_getD]
  · rw [if_neg h, List.getElem?_append_right (by omega)]
    by_cases h2 : i = lg.length
    · subst h2; simp
    · rw [if_neg h2]
      have : i - lg.length ≠ 0 := by omega
      rw [List.getElem?_eq_none (by simp; omega)]; rfl
theorem cfg_push {lg : List En} (h : CfgOK lg) (e : En) (he : e.k ≠ 2) : CfgOK (lg ++ [e]) := by
  intro i hi h2
  rw [getD_push] at h2 ⊢
  by_cases h1 : i < lg.length
  · rw [if_pos h1] at h2 ⊢; exact h i h1 h2
  · rw [List.length_append] at hi
    simp only [List.length_cons, List.length_nil] at hi
    rw [if_neg h1, if_pos (by omega)] at h2
    exact absurd h2 he
theorem size_push {lg : List En} {M : Nat} (h : ∀ i, (lg.getD i default).d.size ≤ M) (e : En) (he : e.d.size ≤ M) : ∀ i, ((lg ++ [e]).getD i default).d.size ≤ M := by
  intro i
  rw [getD_push]
  split
  · exact h i
  · split
    · exact he
    · exact Nat.zero_le _
theorem ensC_push (lg : List En) (e : En) : ensC (lg ++ [e]) = ensC lg ++ enC e := by simp [ensC]
theorem NoO.keep {T : Nat → Prop} {B : Nat} {w w' : World} {lv sv vv nv mv : Value} {lg : List En} {st vs nx mt : List Int} (h : NoO B w lv sv vv nv mv lg st vs nx mt) (ht : Touch T w w') (hn : ∀ k, NoT [lv, sv, vv, nv, mv] k → ¬ T k) : NoO B w' lv sv vv nv mv lg st vs nx mt :=
  ⟨OwnE.kept h.lg ht (fun k hk => hn k ⟨_, by simp, hk⟩), h.st.kept ht (fun k hk => hn k ⟨sv, by simp, hk⟩), h.vs.kept ht (fun k hk => hn k ⟨vv, by simp, hk⟩), h.nx.kept ht (fun k hk => hn k ⟨nv, by simp, hk⟩), h.mt.kept ht (fun k hk => hn k ⟨mv, by simp, hk⟩), h.ap⟩
theorem NoO.blk {B : Nat} {w : World} {lv sv vv nv mv : Value} {lg : List En} {st vs nx mt : List Int} (h : NoO B w lv sv vv nv mv lg st vs nx mt) (k : Nat) (hk : NoT [lv, sv, vv, nv, mv] k) : B ≤ k ∧ k < w.heap.size := by
  obtain ⟨v, hv, hq⟩ := hk
  simp only [List.mem_cons, List.not_mem_nil, or_false] at hv
  rcases hv with rfl | rfl | rfl | rfl | rfl
  · exact World.ownsRow.lt h.lg k hq
  · exact h.st.lt k hq
  · exact h.vs.lt k hq
  · exact h.nx.lt k hq
  · exact h.mt.lt k hq
/-- The log has one entry more. -/
theorem NoO.log {B : Nat} {w w' : World} {lv lv' sv vv nv mv : Value} {lg : List En} {e : En} {st vs nx mt : List Int} (h : NoO B w lv sv vv nv mv lg st vs nx mt) (hg : w.grownBy w' lv.ownBlock) (hown : OwnE B w' lv' (lg ++ [e])) (hat : lv'.ownBlock = lv.ownBlock ∨ lv'.ownBlock = some w.heap.size) : NoO B w' lv' sv vv nv mv (lg ++ [e]) st vs nx mt := by
  have T : Touch (fun k => lv.ownBlock = some k) w w' := (Touch.refl _ w).grown hg (fun k e _ => e)
  obtain ⟨h1, h2⟩ := List.pairwise_cons.1 h.ap
  have hx : ∀ x ∈ [sv, vv, nv, mv], Apart lv' x := fun x hx k hk e => by
    rcases hat with ha | ha
    · exact h1 x hx k (ha ▸ hk) e
    · have hk2 : k = w.heap.size := by rw [ha] at hk; exact (Option.some.inj hk).symm
      have := (NoO.blk h k ⟨x, List.mem_cons_of_mem _ hx, e⟩).2
      omega
  refine ⟨hown, h.st.kept T (fun k hk e => h1 sv (by simp) k e hk), h.vs.kept T (fun k hk e => h1 vv (by simp) k e hk), h.nx.kept T (fun k hk e => h1 nv (by simp) k e hk), h.mt.kept T (fun k hk e => h1 mv (by simp) k e hk), List.pairwise_cons.2 ⟨hx, h2⟩⟩
/-- What (leader).add leaves: the log one longer, what is committed, what is sent. -/
def AddR (B b : Nat) (id tm vo ro cm el wt : Int) (up : Bool) (lg : List En) (st vs nx mt : List Int) (la : Option Addr) (lc : Nat) (sa : Option Addr) (sc : Nat) (va : Option Addr) (vc : Nat) (na : Option Addr) (nc : Nat) (ma : Option Addr) (mc : Nat) (t k : Int) (d : ByteArray) (w w' : World) : Prop :=
  ∃ la' lc' v l D, Blk w' b [.int .i64 id, .int .i64 tm, .int .i64 vo, .slice la' (lg ++ [(⟨t, k, d⟩ : En)]).length lc', .slice sa st.length sc, .int .i64 ro, .slice va vs.length vc, .slice na nx.length nc, .slice ma mt.length mc, .int .i64 (advTo id tm cm (lg ++ [(⟨t, k, d⟩ : En)]) mt (mbAt (lg ++ [(⟨t, k, d⟩ : En)]) st (lg ++ [(⟨t, k, d⟩ : En)]).length) (lg ++ [(⟨t, k, d⟩ : En)]).length), .int .i64 el, .int .i64 wt, .bool up, v] ∧ NoO B w' (.slice la' (lg ++ [(⟨t, k, d⟩ : En)]).length lc') (.slice sa st.length sc) (.slice va vs.length vc) (.slice na nx.length nc) (.slice ma mt.length mc) (lg ++ [(⟨t, k, d⟩ : En)]) st vs nx mt ∧ Ns mgS D w' v l.length l ∧ l.map bareM = tellL id tm (advTo id tm cm (lg ++ [(⟨t, k, d⟩ : En)]) mt (mbAt (lg ++ [(⟨t, k, d⟩ : En)]) st (lg ++ [(⟨t, k, d⟩ : En)]).length) (lg ++ [(⟨t, k, d⟩ : En)]).length) (lg ++ [(⟨t, k, d⟩ : En)]) nx (mbAt (lg ++ [(⟨t, k, d⟩ : En)]) st (lg ++ [(⟨t, k, d⟩ : En)]).length) ∧ (∀ q, NoT [.slice la' (lg ++ [(⟨t, k, d⟩ : En)]).length lc', .slice sa st.length sc, .slice va vs.length vc, .slice na nx.length nc, .slice ma mt.length mc] q → q ≠ b ∧ q < D) ∧ b < D ∧ w.heap.size ≤ D ∧ Touch (fun q => q = b ∨ (Value.slice la lg.length lc).ownBlock = some q) w w'
set_option maxRecDepth 100000 in
set_option maxHeartbeats 2000000 in
theorem add_any (B b : Nat) (id tm vo ro cm el wt : Int) (up : Bool) (lg : List En) (st vs nx mt : List Int) (la : Option Addr) (lc : Nat) (sa : Option Addr) (sc : Nat) (va : Option Addr) (vc : Nat) (na : Option Addr) (nc : Nat) (ma : Option Addr) (mc : Nat) (t k : Int) (d : ByteArray) (w : World) (hX : Blk w b [.int .i64 id, .int .i64 tm, .int .i64 vo, .slice la lg.length lc, .slice sa st.length sc, .int .i64 ro, .slice va vs.length vc, .slice na nx.length nc, .slice ma mt.length mc, .int .i64 cm, .int .i64 el, .int .i64 wt, .bool up, .slice none 0 0]) (hO : NoO B w (.slice la lg.length lc) (.slice sa st.length sc) (.slice va vs.length vc) (.slice na nx.length nc) (.slice ma mt.length mc) lg st vs nx mt) (hap : ∀ v ∈ ([.slice la lg.length lc, .slice sa st.length sc, .slice va vs.length vc, .slice na nx.length nc, .slice ma mt.length mc] : List Value), v.ownBlock ≠ some b) (hB : B ≤ w.heap.size) (hz : ∀ i, (lg.getD i default).d.size ≤ maxLen) (hd : d.size ≤ maxLen) (hk2 : k ≠ 2) (hl : lg.length < 60) (hg : CfgOK lg) (hst : mFault st = 0) (hnx : nx.length = 7) (hmt : mt.length = 7) (hc : 0 ≤ cm) (hnn : ∀ i, i < 7 → 1 ≤ nx.getD i 0 ∧ nx.getD i 0 ≤ (lg.length : Int) + 1) :
    Calls Try.prog 60 #[.agg #[.pointer (some ⟨b, 0, none⟩)], .agg #[.int .i64 t, .int .i64 k, .string d]] w fun e w' => e = .returned (.int .i64 0) ∧ AddR B b id tm vo ro cm el wt up lg st vs nx mt la lc sa sc va vc na nc ma mc t k d w w' := by
  obtain ⟨i0, hi, hz0, hz1, hz2⟩ := info_parts infoEn
  have hbw := hX.1
  have HX := hide hX
  have HO := hide hO
  have HAP := hide hap
  have BB := ((Below.refl w.heap.size w).alloc (Nat.le_refl _) (.cells #[.pointer (some ⟨b, 0, none⟩)] 82)).alloc (by simp) (.cells #[.int .i64 t, .int .i64 k, .string d] 63)
  have B0 := hide BB
  have L0 := hide ((Blk.new w #[.pointer (some ⟨b, 0, none⟩)] 82 w.heap.size rfl).alloc (.cells #[.int .i64 t, .int .i64 k, .string d] 63))
  have E0 := hide (Blk.new (w.alloc (.cells #[.pointer (some ⟨b, 0, none⟩)] 82)) #[.int .i64 t, .int .i64 k, .string d] 63 (w.heap.size + 1) (by simp))
  have HEn := hide (end_any b la lg.length lc _ ((hX.below BB).cell 3 rfl))
  have l0 := (unhide L0).cell 0 rfl
  have HS := hide (And.intro hz (And.intro hd (And.intro hk2 (And.intro hg (And.intro hst (And.intro hnx (And.intro hmt (And.intro hc hnn))))))))
  have q1 : ¬ (60 : Int) ≤ (lg.length : Int) := by omega
  clear hX hO hap BB hz hd hk2 hg hst hnx hmt hc hnn
  go_enter Try.func60, Try.ntmps60
  go_wp2_with fail
  generalize (w.alloc (.cells #[.pointer (some ⟨b, 0, none⟩)] 82)).alloc (.cells #[.int .i64 t, .int .i64 k, .string d] 63) = w1 at *
  refine (unhide HEn).mono ?_
  rintro e w' ⟨rfl, hw'⟩
  have hw2 := hw'.symm
  clear hw'
  subst hw2
  have hl0 : w.heap.size < w1.heap.size := (unhide L0).1
  have he0 : w.heap.size + 1 < w1.heap.size := (unhide E0).1
  have e0 := (unhide E0).cell 0 rfl
  have e1 := (unhide E0).cell 1 rfl
  have e2 := (unhide E0).cell 2 rfl
  go_wp2_with fail
  have B2 := hide (below_drewN (unhide B0) 1)
  have L2 := hide ((unhide L0).drewN 1)
  have E2 := hide ((unhide E0).drewN 1)
  change Hid (Below w.heap.size w w1.drew) at B2
  change Hid (Blk w1.drew w.heap.size _) at L2
  change Hid (Blk w1.drew (w.heap.size + 1) _) at E2
  refine wp_region_noPanic ?_
  refine wp_region_held_drew (S := (fun wx => wx.cell? ⟨w.heap.size, 0, none⟩ = some (.pointer (some ⟨b, 0, none⟩)) ∧ wx.cell? ⟨w.heap.size + 1, 0, none⟩ = some (.int .i64 t) ∧ wx.cell? ⟨w.heap.size + 1, 1, none⟩ = some (.int .i64 k) ∧ wx.cell? ⟨w.heap.size + 1, 2, none⟩ = some (.string d))) (by kernel_rfl) ?_ (fun hHeld => ?_)
  · exact ⟨l0, e0, e1, e2⟩
  refine wpAnyH_take (i := 0) (oi := _) (v := ?_) rfl (by kernel_rfl) (by kernel_rfl) (by kernel_rfl) (fun _ _ _ h => h) (Or.inl ⟨by rfl, ?_⟩) (by assumption) ?_
  rotate_left 1
  · (intro wq hSw; (try dsimp only at hSw); (try simp only [List.getElem_toArray, List.getElem_cons_succ, List.getElem_cons_zero]); go_simp; try with_reducible rfl)
  (try simp only [Act.put, List.getElem_toArray, List.getElem_cons_succ, List.getElem_cons_zero, List.setIfInBounds_toArray, List.set_cons_zero, List.set_cons_succ])
  refine wpAnyH_take (i := 1) (oi := _) (v := ?_) rfl (by kernel_rfl) (by kernel_rfl) (by kernel_rfl) (fun _ _ _ h => h) (Or.inl ⟨by rfl, ?_⟩) (by assumption) ?_
  rotate_left 1
  · (intro wq hSw; (try dsimp only at hSw); (try simp only [List.getElem_toArray, List.getElem_cons_succ, List.getElem_cons_zero]); go_simp; try with_reducible rfl)
  (try simp only [Act.put, List.getElem_toArray, List.getElem_cons_succ, List.getElem_cons_zero, List.setIfInBounds_toArray, List.set_cons_zero, List.set_cons_succ])
  refine wpAnyH_take (i := 2) (oi := _) (v := ?_) rfl (by kernel_rfl) (by kernel_rfl) (by kernel_rfl) (fun _ _ _ h => h) (Or.inl ⟨by rfl, ?_⟩) (by assumption) ?_
  rotate_left 1
  · (intro wq hSw; (try dsimp only at hSw); (try simp only [List.getElem_toArray, List.getElem_cons_succ, List.getElem_cons_zero]); go_simp; try with_reducible rfl)
  (try simp only [Act.put, List.getElem_toArray, List.getElem_cons_succ, List.getElem_cons_zero, List.setIfInBounds_toArray, List.set_cons_zero, List.set_cons_succ])
  refine wpAnyH_take (i := 3) (oi := _) (v := ?_) rfl (by kernel_rfl) (by kernel_rfl) (by kernel_rfl) (fun _ _ _ h => h) (Or.inl ⟨by rfl, ?_⟩) (by assumption) ?_
  rotate_left 1
  · (intro wq hSw; (try dsimp only at hSw); (try simp only [List.getElem_toArray, List.getElem_cons_succ, List.getElem_cons_zero]); go_simp; try with_reducible rfl)
  (try simp only [Act.put, List.getElem_toArray, List.getElem_cons_succ, List.getElem_cons_zero, List.setIfInBounds_toArray, List.set_cons_zero, List.set_cons_succ])
  refine wpAnyH_take (i := 4) (oi := _) (v := ?_) rfl (by kernel_rfl) (by kernel_rfl) (by kernel_rfl) (fun _ _ _ h => h) (Or.inl ⟨by rfl, ?_⟩) (by assumption) ?_
  rotate_left 1
  · (intro wq hSw; (try dsimp only at hSw); (try simp only [List.getElem_toArray, List.getElem_cons_succ, List.getElem_cons_zero]); go_simp; try with_reducible rfl)
  (try simp only [Act.put, List.getElem_toArray, List.getElem_cons_succ, List.getElem_cons_zero, List.setIfInBounds_toArray, List.set_cons_zero, List.set_cons_succ])
  refine wpAnyH_take (i := 5) (oi := _) (v := ?_) rfl (by kernel_rfl) (by kernel_rfl) (by kernel_rfl) (fun _ _ _ h => h) (Or.inl ⟨by rfl, ?_⟩) (by assumption) ?_
  rotate_left 1
  · (intro wq hSw; (try dsimp only at hSw); (try simp only [List.getElem_toArray, List.getElem_cons_succ, List.getElem_cons_zero]); go_simp; try with_reducible rfl)
  (try simp only [Act.put, List.getElem_toArray, List.getElem_cons_succ, List.getElem_cons_zero, List.setIfInBounds_toArray, List.set_cons_zero, List.set_cons_succ])
  refine wpAnyH_take (i := 6) (oi := _) (v := ?_) rfl (by kernel_rfl) (by kernel_rfl) (by kernel_rfl) (fun _ _ _ h => h) (Or.inl ⟨by rfl, ?_⟩) (by assumption) ?_
  rotate_left 1
  · (intro wq hSw; (try dsimp only at hSw); (try simp only [List.getElem_toArray, List.getElem_cons_succ, List.getElem_cons_zero]); go_simp; try with_reducible rfl)
  (try simp only [Act.put, List.getElem_toArray, List.getElem_cons_succ, List.getElem_cons_zero, List.setIfInBounds_toArray, List.set_cons_zero, List.set_cons_succ])
  refine wpAnyH_take (i := 8) (oi := _) (v := ?_) rfl (by kernel_rfl) (by kernel_rfl) (by kernel_rfl) (fun _ _ _ h => h) (Or.inl ⟨by rfl, ?_⟩) (by assumption) ?_
  rotate_left 1
  · (intro wq hSw; (try dsimp only at hSw); (try simp only [List.getElem_toArray, List.getElem_cons_succ, List.getElem_cons_zero]); go_simp; try with_reducible rfl)
  (try simp only [Act.put, List.getElem_toArray, List.getElem_cons_succ, List.getElem_cons_zero, List.setIfInBounds_toArray, List.set_cons_zero, List.set_cons_succ])
  clear l0 e0 e1 e2 L0 E0 B0 hl0 he0 HEn
  generalize w1.drew = wz at *
  have l0 := (unhide L2).cell 0 rfl
  have e0 := (unhide E2).cell 0 rfl
  have e1 := (unhide E2).cell 1 rfl
  have e2 := (unhide E2).cell 2 rfl
  have X2 := hide ((unhide HX).below (unhide B2))
  have y3 := (unhide X2).cell 3 rfl
  have hl0 : w.heap.size < wz.heap.size := (unhide L2).1
  have he0 : w.heap.size + 1 < wz.heap.size := (unhide E2).1
  have HB4 := hide ((Below.refl wz.heap.size wz).alloc (Nat.le_refl _) (.cells #[.int .i64 t, .int .i64 k, .string d] 63))
  have HR4 := hide (blk_rw (Blk.new wz #[.int .i64 t, .int .i64 k, .string d] 63 wz.heap.size rfl))
  have z3 := ((unhide HB4).cell (p := ⟨b, 3, none⟩) (show b < wz.heap.size by omega)).trans y3
  have hbX := unhide HB4
  refine wpAnyH_ready (rs := [7, 9]) (by kernel_rfl) (by simp) ?_
  refine AllReadyH.cons (o := _) rfl (fun K hK => ?_) (AllReadyH.cons (o := _) rfl (fun K hK => ?_) AllReadyH.nil)
  · go_simp
    refine hK.out _ _ ?_ (fun hHeld => ?_)
    · exact ⟨l0, e0, e1, e2⟩
    clear hK K
    (try simp only [Act.put, List.getElem_toArray, List.getElem_cons_succ, List.getElem_cons_zero, List.setIfInBounds_toArray, List.set_cons_zero, List.set_cons_succ])
    refine wpAnyH_ready (rs := [9]) (by kernel_rfl) (by simp) ?_
    refine AllReadyH.cons (o := _) rfl (fun K hK => ?_) AllReadyH.nil
    go_simp
    refine hK.out _ _ ?_ (fun hHeld => ?_)
    · exact ⟨(hbX.cell (p := ⟨w.heap.size, 0, none⟩) hl0).trans l0, (hbX.cell (p := ⟨w.heap.size + 1, 0, none⟩) he0).trans e0, (hbX.cell (p := ⟨w.heap.size + 1, 1, none⟩) he0).trans e1, (hbX.cell (p := ⟨w.heap.size + 1, 2, none⟩) he0).trans e2⟩
    clear hK K
    (try simp only [Act.put, List.getElem_toArray, List.getElem_cons_succ, List.getElem_cons_zero, List.setIfInBounds_toArray, List.set_cons_zero, List.set_cons_succ])
    generalize wz.alloc (.cells #[.int .i64 t, .int .i64 k, .string d] 63) = w4 at *
    have O4 := hide ((unhide HO).below (unhide B2) |>.below (unhide HB4))
    have hs2 := (unhide B2).size
    have hs4 := (unhide HB4).size
    refine wpAnyH_ready (rs := [10]) (by kernel_rfl) (by simp) ?_
    refine AllReadyH.cons (o := _) rfl (fun K hK => ?_) AllReadyH.nil
    refine step_append_row rfl _ _ _ rfl B 63 i0 _ 3 32 Try.underlying27 hi hz0 hz1 hz2 rfl (by omega) (.slice la lg.length lc) lg.length _ rfl (unhide O4).lg _ 1 [.int .i64 t, .int .i64 k, .string d] rfl (unhide HR4) rfl (by simp [Value.oneCell']) (by unfold maxLen; omega) (by omega) (by omega) ?_
    intro a6 c6 w5 hown5 hgrow5 hat5
    obtain ⟨g, rfl⟩ : ∃ g, a6 = some ⟨g, 0, none⟩ := by
      rcases own_shape hown5 with ⟨_, h0⟩ | ⟨g, cap, hq, _⟩
      · omega
      · simp only [Value.slice.injEq] at hq
        exact ⟨g, hq.1⟩
    have hO5 : NoO B w5 (.slice (some ⟨g, 0, none⟩) (lg.length + 1) c6) (.slice sa st.length sc) (.slice va vs.length vc) (.slice na nx.length nc) (.slice ma mt.length mc) (lg ++ [(⟨t, k, d⟩ : En)]) st vs nx mt := NoO.log (unhide O4) hgrow5 (by unfold OwnE; rw [List.length_append, ensC_push]; exact hown5) hat5
    have hgb : g ≠ b := fun e => by
      rcases hat5 with h | h
      · exact unhide HAP (.slice la lg.length lc) (by simp) (by rw [← h, e]; rfl)
      · have : g = w4.heap.size := by simpa [Value.ownBlock] using h
        omega
    have hap5 : ∀ q, NoT [(.slice (some ⟨g, 0, none⟩) (lg.length + 1) c6), .slice sa st.length sc, .slice va vs.length vc, .slice na nx.length nc, .slice ma mt.length mc] q → q ≠ b := fun q hq e => by
      obtain ⟨v, hv, hvq⟩ := hq
      rcases List.mem_cons.1 hv with rfl | hv
      · have : q = g := by simp [Value.ownBlock] at hvq; omega
        omega
      · exact unhide HAP v (List.mem_cons_of_mem _ hv) (by rw [hvq, e])
    have T4 := (Touch.refl (fun q => (Value.slice la lg.length lc).ownBlock = some q) w4).grown hgrow5 (fun q e _ => e)
    have hlv : ∀ q, (Value.slice la lg.length lc).ownBlock = some q → q < w.heap.size := fun q e => (NoO.blk (unhide HO) q ⟨_, by simp, e⟩).2
    have X5 := ((unhide X2).below (unhide HB4)).kept T4 (fun e => unhide HAP _ (by simp) e)
    have L5 := ((unhide L2).below (unhide HB4)).kept T4 (fun e => by have := hlv _ e; omega)
    have E5 := ((unhide E2).below (unhide HB4)).kept T4 (fun e => by have := hlv _ e; omega)
    have T5 := hide ((((Touch.ofBelow (T := fun q => q = b ∨ (Value.slice la lg.length lc).ownBlock = some q) (unhide B2)).trans (T' := fun _ => False) (Touch.ofBelow (unhide HB4)) (fun _ _ e => e.elim)).grown hgrow5 (fun q e hq => .inr e)).setCell ⟨b, 3, none⟩ (.slice (some ⟨g, 0, none⟩) (lg.length + 1) c6) (fun _ => .inl rfl))
    have O6 := hide (NoO.keep hO5 ((Touch.refl (fun q => q = b) w5).setCell ⟨b, 3, none⟩ (.slice (some ⟨g, 0, none⟩) (lg.length + 1) c6) (fun _ => rfl)) hap5)
    have HA5 := hide hap5
    have X6 := hide (X5.set 3 (.slice (some ⟨g, 0, none⟩) (lg.length + 1) c6) (by simp))
    have u3 := X5.cell 3 rfl
    have f3 := X5.fro 3
    have L6 := hide (L5.other (C := b) 3 (.slice (some ⟨g, 0, none⟩) (lg.length + 1) c6) (fun e => by omega))
    have E6 := hide (E5.other (C := b) 3 (.slice (some ⟨g, 0, none⟩) (lg.length + 1) c6) (fun e => by omega))
    refine hK.out _ _ ?_ (fun hHeld => ?_)
    · exact ⟨L5.cell 0 rfl, E5.cell 0 rfl, E5.cell 1 rfl, E5.cell 2 rfl⟩
    clear hK K T4 X5 L5 E5 hown5 hgrow5 hat5 hO5 hap5 hlv O4
    (try simp only [Act.put, List.getElem_toArray, List.getElem_cons_succ, List.getElem_cons_zero, List.setIfInBounds_toArray, List.set_cons_zero, List.set_cons_succ])
    refine wpAnyH_take (i := 11) (oi := _) (v := ?_) rfl (by kernel_rfl) (by kernel_rfl) (by kernel_rfl) (fun _ _ _ h => h) (Or.inl ⟨by rfl, ?_⟩) (by assumption) ?_
    rotate_left 1
    · (intro wq hSw; (try dsimp only at hSw); (try simp only [List.getElem_toArray, List.getElem_cons_succ, List.getElem_cons_zero]); go_simp; try with_reducible rfl)
    (try simp only [Act.put, List.getElem_toArray, List.getElem_cons_succ, List.getElem_cons_zero, List.setIfInBounds_toArray, List.set_cons_zero, List.set_cons_succ])
    refine wpAnyH_take (i := 12) (oi := _) (v := ?_) rfl (by kernel_rfl) (by kernel_rfl) (by kernel_rfl) (fun _ _ _ h => h) (Or.inl ⟨by rfl, ?_⟩) (by assumption) ?_
    rotate_left 1
    · (intro wq hSw; (try dsimp only at hSw); (try simp only [List.getElem_toArray, List.getElem_cons_succ, List.getElem_cons_zero]); go_simp; try with_reducible rfl)
    (try simp only [Act.put, List.getElem_toArray, List.getElem_cons_succ, List.getElem_cons_zero, List.setIfInBounds_toArray, List.set_cons_zero, List.set_cons_succ])
    refine wpAnyH_take (i := 13) (oi := _) (v := ?_) rfl (by kernel_rfl) (by kernel_rfl) (by kernel_rfl) (fun _ _ _ h => h) (Or.inl ⟨by rfl, ?_⟩) (by assumption) ?_
    rotate_left 1
    · (intro wq hSw; (try dsimp only at hSw); (try simp only [List.getElem_toArray, List.getElem_cons_succ, List.getElem_cons_zero]); go_simp; try with_reducible rfl)
    (try simp only [Act.put, List.getElem_toArray, List.getElem_cons_succ, List.getElem_cons_zero, List.setIfInBounds_toArray, List.set_cons_zero, List.set_cons_succ])
    refine wpAnyH_ready (rs := [14]) (by kernel_rfl) (by simp) ?_
    refine AllReadyH.cons (o := _) rfl (fun K hK => ?_) AllReadyH.nil
    go_simp
    refine hK.out _ _ ?_ (fun hHeld => ?_)
    · exact ⟨(unhide L6).cell 0 rfl, (unhide E6).cell 0 rfl, (unhide E6).cell 1 rfl, (unhide E6).cell 2 rfl⟩
    clear hK K
    (try simp only [Act.put, List.getElem_toArray, List.getElem_cons_succ, List.getElem_cons_zero, List.setIfInBounds_toArray, List.set_cons_zero, List.set_cons_succ])
    refine wpAnyH_done (by kernel_rfl) (NoPanic.normal ?_) _
    generalize w5.setCell ⟨b, 3, none⟩ (.slice (some ⟨g, 0, none⟩) (lg.length + 1) c6) = w6 at *
    simp only [List.set_cons_succ, List.set_cons_zero] at X6
    have X6' := X6
    clear u3 f3 hbX z3 y3 X2 HB4 HR4 l0 e0 e1 e2 E6
    obtain ⟨hz, hd, hk2, hg, hst, hnx, hmt, hc, hnn⟩ := unhide HS
    have hlen : (lg ++ [(⟨t, k, d⟩ : En)]).length = lg.length + 1 := by simp
    have hg' := cfg_push hg (⟨t, k, d⟩ : En) hk2
    have hz' := size_push hz (⟨t, k, d⟩ : En) hd
    have hmb := mb_seven (lg ++ [(⟨t, k, d⟩ : En)]) st hg' hst
    have hnn' : ∀ x ∈ mbAt (lg ++ [(⟨t, k, d⟩ : En)]) st (lg ++ [(⟨t, k, d⟩ : En)]).length, 0 ≤ x ∧ x < 7 ∧ (x ≠ id → 1 ≤ nx.getD x.toNat 0 ∧ nx.getD x.toNat 0 ≤ ((lg ++ [(⟨t, k, d⟩ : En)]).length : Int) + 1) := fun x hx => ⟨(hmb.2 x hx).1, (hmb.2 x hx).2, fun _ => by have := hmb.2 x hx; have := hnn x.toNat (by omega); rw [hlen]; push_cast; omega⟩
    have hl60 : (lg ++ [(⟨t, k, d⟩ : En)]).length ≤ 60 := by rw [hlen]; omega
    rw [← hlen] at X6 O6 HA5
    have HU := hide hnn'
    have HV := hide (And.intro hg' (And.intro hz' (And.intro hmb (And.intro hl60 (And.intro hnx (And.intro hmt (And.intro hc hlen)))))))
    clear hz hd hk2 hg hst hnx hmt hc hnn hg' hz' hmb hnn' hl60 HS X6'
    generalize hlgN : lg ++ [(⟨t, k, d⟩ : En)] = lgN at *
    have HLG := hide hlgN
    clear hlgN
    obtain ⟨hg', hz', hmb, hl60, hnx, hmt, hc, hlen⟩ := unhide HV
    have HLEN := hide hlen
    have HCm := hide (commit_any B b id tm vo ro cm el wt up lgN st vs nx mt (some ⟨g, 0, none⟩) c6 sa sc va vc na nc ma mc (.slice none 0 0) w6 (unhide X6) (unhide O6).lg.ens (unhide O6).st (by have := (unhide T5).size; omega) (unhide O6).mt.ints hz' hl60 hg' hmt hmb.1 hmb.2 hc)
    have l0 := (unhide L6).cell 0 rfl
    have HV2 := hide (And.intro hg' (And.intro hz' (And.intro hmb (And.intro hl60 hnx))))
    generalize hcmN : advTo id tm cm lgN mt (mbAt lgN st lgN.length) lgN.length = cmN at *
    have HCM := hide hcmN
    clear hcmN
    clear hg' hz' hmb hl60 hnx hmt hc hlen HV HX HO HAP
    rw [← unhide HLEN]
    go_wp2_with fail
    refine (unhide HCm).mono ?_
    rintro e w7 ⟨⟨v7, rfl⟩, hX7, hT7⟩
    obtain ⟨hg', hz', hmb, hl60, hnx⟩ := unhide HV2
    have O7 := NoO.keep (unhide O6) hT7 (unhide HA5)
    have L7 := (unhide L6).kept hT7 (fun e => by have : b < w.heap.size := hbw; omega)
    have hs5 := (unhide T5).size
    have hs7 := hT7.size
    have HSn := hide (sendNews_any B b id tm vo ro cmN el wt up lgN st vs nx mt (some ⟨g, 0, none⟩) c6 sa sc va vc na nc ma mc w7 hX7 O7.lg.ens (fun e => unhide HA5 b ⟨_, by simp, e⟩ rfl) O7.st (by omega) (fun e => unhide HA5 b ⟨_, by simp, e⟩ rfl) O7.nx.ints (fun e => unhide HA5 b ⟨_, by simp, e⟩ rfl) hz' hl60 hg' hnx hmb.1 (unhide HU))
    have HO7 := hide O7
    have T7 := hide ((unhide T5).trans (T' := fun q => q = b) hT7 (fun _ _ e => .inl e))
    have l7 := L7.cell 0 rfl
    have hb7 : b < w7.heap.size := by omega
    have hw7 : w.heap.size ≤ w7.heap.size := by omega
    clear hX7 hT7 HCm O7 L7 l0 hg' hz' hmb hl60 hnx HV2 HU X6 L6 O6 T5
    go_wp2_with fail
    refine (unhide HSn).mono ?_
    rintro e w8 ⟨⟨v8, rfl⟩, v, l, hX8, hN8, hL8, hT8⟩
    have R8 := hide (And.intro hX8 (And.intro (NoO.keep (unhide HO7) hT8 (unhide HA5)) (And.intro hN8 (And.intro hL8 ((unhide T7).trans (T' := fun q => q = b) hT8 (fun _ _ e => .inl e))))))
    have HBk := hide (fun q hq => (NoO.blk (unhide HO7) q hq).2)
    clear hX8 hN8 hL8 hT8 HSn T7 HO7
    go_wp2_with fail
    go_ret
    refine ⟨rfl, ?_⟩
    unfold AddR
    rw [unhide HLG, unhide HCM]
    exact ⟨some ⟨g, 0, none⟩, c6, v, l, w7.heap.size, (unhide R8).1, (unhide R8).2.1, (unhide R8).2.2.1, (unhide R8).2.2.2.1, fun q hq => ⟨unhide HA5 q hq, unhide HBk q hq⟩, hb7, hw7, (unhide R8).2.2.2.2⟩
  · go_simp
    refine hK.out _ _ ?_ (fun hHeld => ?_)
    · exact ⟨(hbX.cell (p := ⟨w.heap.size, 0, none⟩) hl0).trans l0, (hbX.cell (p := ⟨w.heap.size + 1, 0, none⟩) he0).trans e0, (hbX.cell (p := ⟨w.heap.size + 1, 1, none⟩) he0).trans e1, (hbX.cell (p := ⟨w.heap.size + 1, 2, none⟩) he0).trans e2⟩
    clear hK K
    (try simp only [Act.put, List.getElem_toArray, List.getElem_cons_succ, List.getElem_cons_zero, List.setIfInBounds_toArray, List.set_cons_zero, List.set_cons_succ])
    refine wpAnyH_ready (rs := [7]) (by kernel_rfl) (by simp) ?_
    refine AllReadyH.cons (o := _) rfl (fun K hK => ?_) AllReadyH.nil
    go_simp
    refine hK.out _ _ ?_ (fun hHeld => ?_)
    · exact ⟨(hbX.cell (p := ⟨w.heap.size, 0, none⟩) hl0).trans l0, (hbX.cell (p := ⟨w.heap.size + 1, 0, none⟩) he0).trans e0, (hbX.cell (p := ⟨w.heap.size + 1, 1, none⟩) he0).trans e1, (hbX.cell (p := ⟨w.heap.size + 1, 2, none⟩) he0).trans e2⟩
    clear hK K
    (try simp only [Act.put, List.getElem_toArray, List.getElem_cons_succ, List.getElem_cons_zero, List.setIfInBounds_toArray, List.set_cons_zero, List.set_cons_succ])
    generalize wz.alloc (.cells #[.int .i64 t, .int .i64 k, .string d] 63) = w4 at *
    have O4 := hide ((unhide HO).below (unhide B2) |>.below (unhide HB4))
    have hs2 := (unhide B2).size
    have hs4 := (unhide HB4).size
    refine wpAnyH_ready (rs := [10]) (by kernel_rfl) (by simp) ?_
    refine AllReadyH.cons (o := _) rfl (fun K hK => ?_) AllReadyH.nil
    refine step_append_row rfl _ _ _ rfl B 63 i0 _ 3 32 Try.underlying27 hi hz0 hz1 hz2 rfl (by omega) (.slice la lg.length lc) lg.length _ rfl (unhide O4).lg _ 1 [.int .i64 t, .int .i64 k, .string d] rfl (unhide HR4) rfl (by simp [Value.oneCell']) (by unfold maxLen; omega) (by omega) (by omega) ?_
    intro a6 c6 w5 hown5 hgrow5 hat5
    obtain ⟨g, rfl⟩ : ∃ g, a6 = some ⟨g, 0, none⟩ := by
      rcases own_shape hown5 with ⟨_, h0⟩ | ⟨g, cap, hq, _⟩
      · omega
      · simp only [Value.slice.injEq] at hq
        exact ⟨g, hq.1⟩
    have hO5 : NoO B w5 (.slice (some ⟨g, 0, none⟩) (lg.length + 1) c6) (.slice sa st.length sc) (.slice va vs.length vc) (.slice na nx.length nc) (.slice ma mt.length mc) (lg ++ [(⟨t, k, d⟩ : En)]) st vs nx mt := NoO.log (unhide O4) hgrow5 (by unfold OwnE; rw [List.length_append, ensC_push]; exact hown5) hat5
    have hgb : g ≠ b := fun e => by
      rcases hat5 with h | h
      · exact unhide HAP (.slice la lg.length lc) (by simp) (by rw [← h, e]; rfl)
      · have : g = w4.heap.size := by simpa [Value.ownBlock] using h
        omega
    have hap5 : ∀ q, NoT [(.slice (some ⟨g, 0, none⟩) (lg.length + 1) c6), .slice sa st.length sc, .slice va vs.length vc, .slice na nx.length nc, .slice ma mt.length mc] q → q ≠ b := fun q hq e => by
      obtain ⟨v, hv, hvq⟩ := hq
      rcases List.mem_cons.1 hv with rfl | hv
      · have : q = g := by simp [Value.ownBlock] at hvq; omega
        omega
      · exact unhide HAP v (List.mem_cons_of_mem _ hv) (by rw [hvq, e])
    have T4 := (Touch.refl (fun q => (Value.slice la lg.length lc).ownBlock = some q) w4).grown hgrow5 (fun q e _ => e)
    have hlv : ∀ q, (Value.slice la lg.length lc).ownBlock = some q → q < w.heap.size := fun q e => (NoO.blk (unhide HO) q ⟨_, by simp, e⟩).2
    have X5 := ((unhide X2).below (unhide HB4)).kept T4 (fun e => unhide HAP _ (by simp) e)
    have L5 := ((unhide L2).below (unhide HB4)).kept T4 (fun e => by have := hlv _ e; omega)
    have E5 := ((unhide E2).below (unhide HB4)).kept T4 (fun e => by have := hlv _ e; omega)
    have T5 := hide ((((Touch.ofBelow (T := fun q => q = b ∨ (Value.slice la lg.length lc).ownBlock = some q) (unhide B2)).trans (T' := fun _ => False) (Touch.ofBelow (unhide HB4)) (fun _ _ e => e.elim)).grown hgrow5 (fun q e hq => .inr e)).setCell ⟨b, 3, none⟩ (.slice (some ⟨g, 0, none⟩) (lg.length + 1) c6) (fun _ => .inl rfl))
    have O6 := hide (NoO.keep hO5 ((Touch.refl (fun q => q = b) w5).setCell ⟨b, 3, none⟩ (.slice (some ⟨g, 0, none⟩) (lg.length + 1) c6) (fun _ => rfl)) hap5)
    have HA5 := hide hap5
    have X6 := hide (X5.set 3 (.slice (some ⟨g, 0, none⟩) (lg.length + 1) c6) (by simp))
    have u3 := X5.cell 3 rfl
    have f3 := X5.fro 3
    have L6 := hide (L5.other (C := b) 3 (.slice (some ⟨g, 0, none⟩) (lg.length + 1) c6) (fun e => by omega))
    have E6 := hide (E5.other (C := b) 3 (.slice (some ⟨g, 0, none⟩) (lg.length + 1) c6) (fun e => by omega))
    refine hK.out _ _ ?_ (fun hHeld => ?_)
    · exact ⟨L5.cell 0 rfl, E5.cell 0 rfl, E5.cell 1 rfl, E5.cell 2 rfl⟩
    clear hK K T4 X5 L5 E5 hown5 hgrow5 hat5 hO5 hap5 hlv O4
    (try simp only [Act.put, List.getElem_toArray, List.getElem_cons_succ, List.getElem_cons_zero, List.setIfInBounds_toArray, List.set_cons_zero, List.set_cons_succ])
    refine wpAnyH_take (i := 11) (oi := _) (v := ?_) rfl (by kernel_rfl) (by kernel_rfl) (by kernel_rfl) (fun _ _ _ h => h) (Or.inl ⟨by rfl, ?_⟩) (by assumption) ?_
    rotate_left 1
    · (intro wq hSw; (try dsimp only at hSw); (try simp only [List.getElem_toArray, List.getElem_cons_succ, List.getElem_cons_zero]); go_simp; try with_reducible rfl)
    (try simp only [Act.put, List.getElem_toArray, List.getElem_cons_succ, List.getElem_cons_zero, List.setIfInBounds_toArray, List.set_cons_zero, List.set_cons_succ])
    refine wpAnyH_take (i := 12) (oi := _) (v := ?_) rfl (by kernel_rfl) (by kernel_rfl) (by kernel_rfl) (fun _ _ _ h => h) (Or.inl ⟨by rfl, ?_⟩) (by assumption) ?_
    rotate_left 1
    · (intro wq hSw; (try dsimp only at hSw); (try simp only [List.getElem_toArray, List.getElem_cons_succ, List.getElem_cons_zero]); go_simp; try with_reducible rfl)
    (try simp only [Act.put, List.getElem_toArray, List.getElem_cons_succ, List.getElem_cons_zero, List.setIfInBounds_toArray, List.set_cons_zero, List.set_cons_succ])
    refine wpAnyH_take (i := 13) (oi := _) (v := ?_) rfl (by kernel_rfl) (by kernel_rfl) (by kernel_rfl) (fun _ _ _ h => h) (Or.inl ⟨by rfl, ?_⟩) (by assumption) ?_
    rotate_left 1
    · (intro wq hSw; (try dsimp only at hSw); (try simp only [List.getElem_toArray, List.getElem_cons_succ, List.getElem_cons_zero]); go_simp; try with_reducible rfl)
    (try simp only [Act.put, List.getElem_toArray, List.getElem_cons_succ, List.getElem_cons_zero, List.setIfInBounds_toArray, List.set_cons_zero, List.set_cons_succ])
    refine wpAnyH_ready (rs := [14]) (by kernel_rfl) (by simp) ?_
    refine AllReadyH.cons (o := _) rfl (fun K hK => ?_) AllReadyH.nil
    go_simp
    refine hK.out _ _ ?_ (fun hHeld => ?_)
    · exact ⟨(unhide L6).cell 0 rfl, (unhide E6).cell 0 rfl, (unhide E6).cell 1 rfl, (unhide E6).cell 2 rfl⟩
    clear hK K
    (try simp only [Act.put, List.getElem_toArray, List.getElem_cons_succ, List.getElem_cons_zero, List.setIfInBounds_toArray, List.set_cons_zero, List.set_cons_succ])
    refine wpAnyH_done (by kernel_rfl) (NoPanic.normal ?_) _
    generalize w5.setCell ⟨b, 3, none⟩ (.slice (some ⟨g, 0, none⟩) (lg.length + 1) c6) = w6 at *
    simp only [List.set_cons_succ, List.set_cons_zero] at X6
    have X6' := X6
    clear u3 f3 hbX z3 y3 X2 HB4 HR4 l0 e0 e1 e2 E6
    obtain ⟨hz, hd, hk2, hg, hst, hnx, hmt, hc, hnn⟩ := unhide HS
    have hlen : (lg ++ [(⟨t, k, d⟩ : En)]).length = lg.length + 1 := by simp
    have hg' := cfg_push hg (⟨t, k, d⟩ : En) hk2
    have hz' := size_push hz (⟨t, k, d⟩ : En) hd
    have hmb := mb_seven (lg ++ [(⟨t, k, d⟩ : En)]) st hg' hst
    have hnn' : ∀ x ∈ mbAt (lg ++ [(⟨t, k, d⟩ : En)]) st (lg ++ [(⟨t, k, d⟩ : En)]).length, 0 ≤ x ∧ x < 7 ∧ (x ≠ id → 1 ≤ nx.getD x.toNat 0 ∧ nx.getD x.toNat 0 ≤ ((lg ++ [(⟨t, k, d⟩ : En)]).length : Int) + 1) := fun x hx => ⟨(hmb.2 x hx).1, (hmb.2 x hx).2, fun _ => by have := hmb.2 x hx; have := hnn x.toNat (by omega); rw [hlen]; push_cast; omega⟩
    have hl60 : (lg ++ [(⟨t, k, d⟩ : En)]).length ≤ 60 := by rw [hlen]; omega
    rw [← hlen] at X6 O6 HA5
    have HU := hide hnn'
    have HV := hide (And.intro hg' (And.intro hz' (And.intro hmb (And.intro hl60 (And.intro hnx (And.intro hmt (And.intro hc hlen)))))))
    clear hz hd hk2 hg hst hnx hmt hc hnn hg' hz' hmb hnn' hl60 HS X6'
    generalize hlgN : lg ++ [(⟨t, k, d⟩ : En)] = lgN at *
    have HLG := hide hlgN
    clear hlgN
    obtain ⟨hg', hz', hmb, hl60, hnx, hmt, hc, hlen⟩ := unhide HV
    have HLEN := hide hlen
    have HCm := hide (commit_any B b id tm vo ro cm el wt up lgN st vs nx mt (some ⟨g, 0, none⟩) c6 sa sc va vc na nc ma mc (.slice none 0 0) w6 (unhide X6) (unhide O6).lg.ens (unhide O6).st (by have := (unhide T5).size; omega) (unhide O6).mt.ints hz' hl60 hg' hmt hmb.1 hmb.2 hc)
    have l0 := (unhide L6).cell 0 rfl
    have HV2 := hide (And.intro hg' (And.intro hz' (And.intro hmb (And.intro hl60 hnx))))
    generalize hcmN : advTo id tm cm lgN mt (mbAt lgN st lgN.length) lgN.length = cmN at *
    have HCM := hide hcmN
    clear hcmN
    clear hg' hz' hmb hl60 hnx hmt hc hlen HV HX HO HAP
    rw [← unhide HLEN]
    go_wp2_with fail
    refine (unhide HCm).mono ?_
    rintro e w7 ⟨⟨v7, rfl⟩, hX7, hT7⟩
    obtain ⟨hg', hz', hmb, hl60, hnx⟩ := unhide HV2
    have O7 := NoO.keep (unhide O6) hT7 (unhide HA5)
    have L7 := (unhide L6).kept hT7 (fun e => by have : b < w.heap.size := hbw; omega)
    have hs5 := (unhide T5).size
    have hs7 := hT7.size
    have HSn := hide (sendNews_any B b id tm vo ro cmN el wt up lgN st vs nx mt (some ⟨g, 0, none⟩) c6 sa sc va vc na nc ma mc w7 hX7 O7.lg.ens (fun e => unhide HA5 b ⟨_, by simp, e⟩ rfl) O7.st (by omega) (fun e => unhide HA5 b ⟨_, by simp, e⟩ rfl) O7.nx.ints (fun e => unhide HA5 b ⟨_, by simp, e⟩ rfl) hz' hl60 hg' hnx hmb.1 (unhide HU))
    have HO7 := hide O7
    have T7 := hide ((unhide T5).trans (T' := fun q => q = b) hT7 (fun _ _ e => .inl e))
    have l7 := L7.cell 0 rfl
    have hb7 : b < w7.heap.size := by omega
    have hw7 : w.heap.size ≤ w7.heap.size := by omega
    clear hX7 hT7 HCm O7 L7 l0 hg' hz' hmb hl60 hnx HV2 HU X6 L6 O6 T5
    go_wp2_with fail
    refine (unhide HSn).mono ?_
    rintro e w8 ⟨⟨v8, rfl⟩, v, l, hX8, hN8, hL8, hT8⟩
    have R8 := hide (And.intro hX8 (And.intro (NoO.keep (unhide HO7) hT8 (unhide HA5)) (And.intro hN8 (And.intro hL8 ((unhide T7).trans (T' := fun q => q = b) hT8 (fun _ _ e => .inl e))))))
    have HBk := hide (fun q hq => (NoO.blk (unhide HO7) q hq).2)
    clear hX8 hN8 hL8 hT8 HSn T7 HO7
    go_wp2_with fail
    go_ret
    refine ⟨rfl, ?_⟩
    unfold AddR
    rw [unhide HLG, unhide HCM]
    exact ⟨some ⟨g, 0, none⟩, c6, v, l, w7.heap.size, (unhide R8).1, (unhide R8).2.1, (unhide R8).2.2.1, (unhide R8).2.2.2.1, fun q hq => ⟨unhide HA5 q hq, unhide HBk q hq⟩, hb7, hw7, (unhide R8).2.2.2.2⟩
end Go.Proofs.Ytglkgmijcefjkaa
namespace Go.Proofs.Ytglkgmijcefjkaa
open Go.ChangeShapes Go.WideShapes Go.ChangeAt Go.RowKit
set_option linter.unusedVariables false

theorem ta_same {P : Program} (t xT : TypeId) (fs : Array Field) (v : Value) (w : World) (h : P.underlying t = some (.struct fs)) : (Instr.typeAssert (.iface t v) xT t true).run P w = .ok (.tuple #[v, .bool true]) w := by
  simp [Instr.typeAssert, run_underlying h, go_sem, Result.andThen]
theorem ta_other {P : Program} (t t' xT : TypeId) (fs : Array Field) (v z : Value) (w : World) (h : P.underlying t' = some (.struct fs)) (hne : t ≠ t') (hz : (P.info? t').map (·.zero) = some (some z)) : (Instr.typeAssert (.iface t v) xT t' true).run P w = .ok (.tuple #[z, .bool false]) w := by
  cases hi : P.info? t' with
  | none => rw [hi] at hz; cases hz
  | some i =>
    rw [hi] at hz
    have hz' : i.zero = some z := by simpa using hz
    simp [Instr.typeAssert, run_underlying h, go_sem, Result.andThen, hne, zeroValue, typeInfo, hi, hz']
end Go.Proofs.Ytglkgmijcefjkaa
namespace Go.Proofs.Ytglkgmijcefjkaa
open Go.ChangeShapes Go.WideShapes Go.ChangeAt Go.RowKit Go.Deep
set_option linter.unusedVariables false
set_option linter.unusedSimpArgs false

/-- What an actor is at the time. -/
def roleV (b : Nat) (ro : Int) : Value := if ro = 1 then .iface 84 (.agg #[.pointer (some ⟨b, 0, none⟩)]) else if ro = 2 then .iface 82 (.agg #[.pointer (some ⟨b, 0, none⟩)]) else .iface 83 (.agg #[.pointer (some ⟨b, 0, none⟩)])
set_option maxRecDepth 100000 in
theorem role_any (b : Nat) (ro : Int) (w : World) (h5 : w.cell? ⟨b, 5, none⟩ = some (.int .i64 ro)) :
    Calls Try.prog 53 #[.pointer (some ⟨b, 0, none⟩)] w fun e w' => e = .returned (roleV b ro) ∧ w' = w := by
  by_cases h1 : ro = 1
  · subst h1
    go_enter Try.func53, Try.ntmps53
    go_wp2_with fail
    go_ret
    exact ⟨rfl, rfl⟩
  · by_cases h2 : ro = 2
    · subst h2
      go_enter Try.func53, Try.ntmps53
      go_wp2_with fail
      go_ret
      exact ⟨rfl, rfl⟩
    · have E : Hid (roleV b ro = .iface 83 (.agg #[.pointer (some ⟨b, 0, none⟩)])) := hide (by unfold roleV; rw [if_neg h1, if_neg h2])
      have b1 : (ro == 1) = false := by rw [beq_eq_false_iff_ne]; exact h1
      have b2 : (ro == 2) = false := by rw [beq_eq_false_iff_ne]; exact h2
      go_enter Try.func53, Try.ntmps53
      go_wp2_with fail
      go_ret
      exact ⟨by rw [unhide E]; rfl, rfl⟩
set_option maxRecDepth 100000 in
set_option maxHeartbeats 1000000 in
theorem addFull_any (b : Nat) (la : Option Addr) (lc n : Nat) (t k : Int) (d : ByteArray) (w : World) (hb : b < w.heap.size) (h3 : w.cell? ⟨b, 3, none⟩ = some (.slice la n lc)) (hn : 60 ≤ n) :
    Calls Try.prog 60 #[.agg #[.pointer (some ⟨b, 0, none⟩)], .agg #[.int .i64 t, .int .i64 k, .string d]] w fun e w' => e = .returned (.int .i64 7) ∧ Below w.heap.size w w' := by
  have BB := ((Below.refl w.heap.size w).alloc (Nat.le_refl _) (.cells #[.pointer (some ⟨b, 0, none⟩)] 82)).alloc (by simp) (.cells #[.int .i64 t, .int .i64 k, .string d] 63)
  have B0 := hide BB
  have L0 := hide ((Blk.new w #[.pointer (some ⟨b, 0, none⟩)] 82 w.heap.size rfl).alloc (.cells #[.int .i64 t, .int .i64 k, .string d] 63))
  have HEn := hide (end_any b la n lc _ ((BB.cell (p := ⟨b, 3, none⟩) hb).trans h3))
  have l0 := (unhide L0).cell 0 rfl
  have q1 : (60 : Int) ≤ (n : Int) := by omega
  clear BB h3
  go_enter Try.func60, Try.ntmps60
  go_wp2_with fail
  generalize (w.alloc (.cells #[.pointer (some ⟨b, 0, none⟩)] 82)).alloc (.cells #[.int .i64 t, .int .i64 k, .string d] 63) = w1 at *
  refine (unhide HEn).mono ?_
  rintro e w' ⟨rfl, hw'⟩
  have hw2 := hw'.symm
  clear hw'
  subst hw2
  go_wp2_with fail
  go_ret
  exact ⟨rfl, unhide B0⟩
theorem AddR.from {B b : Nat} {id tm vo ro cm el wt : Int} {up : Bool} {lg : List En} {st vs nx mt : List Int} {la : Option Addr} {lc : Nat} {sa : Option Addr} {sc : Nat} {va : Option Addr} {vc : Nat} {na : Option Addr} {nc : Nat} {ma : Option Addr} {mc : Nat} {t k : Int} {d : ByteArray} {w w2 w' : World} (h : AddR B b id tm vo ro cm el wt up lg st vs nx mt la lc sa sc va vc na nc ma mc t k d w2 w') (hb : Below w.heap.size w w2) : AddR B b id tm vo ro cm el wt up lg st vs nx mt la lc sa sc va vc na nc ma mc t k d w w' := by
  obtain ⟨la', lc', v, l, D, h1, h2, h3, h4, h5, h6, h7, h8⟩ := h
  have hs := hb.size
  exact ⟨la', lc', v, l, D, h1, h2, h3, h4, h5, h6, by omega, (Touch.ofBelow hb).trans h8 (fun _ _ e => e)⟩
set_option maxRecDepth 100000 in
set_option maxHeartbeats 1000000 in
theorem propNo_any (b : Nat) (ro k : Int) (d : ByteArray) (w : World) (h5 : w.cell? ⟨b, 5, none⟩ = some (.int .i64 ro)) (hro : ro ≠ 2) :
    Calls Try.prog 38 #[.pointer (some ⟨b, 0, none⟩), .int .i64 k, .string d] w fun e w' => e = .returned (.int .i64 14) ∧ w' = w := by
  have HR := hide (role_any b ro w h5)
  by_cases h1 : ro = 1
  · have E : roleV b ro = .iface 84 (.agg #[.pointer (some ⟨b, 0, none⟩)]) := by unfold roleV; rw [if_pos h1]
    rw [E] at HR
    have t1 := fun wx => ta_other (P := Try.prog) 84 82 79 _ (.agg #[.pointer (some ⟨b, 0, none⟩)]) (.agg #[.pointer none]) wx Try.underlying82 (by decide) (by kernel_rfl)
    go_enter Try.func38, Try.ntmps38
    go_wp2_with fail
    refine (unhide HR).mono ?_
    rintro e w' ⟨rfl, hw'⟩
    subst hw'
    go_wp2_with fail
    go_ret
    exact ⟨rfl, rfl⟩
  · have E : roleV b ro = .iface 83 (.agg #[.pointer (some ⟨b, 0, none⟩)]) := by unfold roleV; rw [if_neg h1, if_neg hro]
    rw [E] at HR
    have t1 := fun wx => ta_other (P := Try.prog) 83 82 79 _ (.agg #[.pointer (some ⟨b, 0, none⟩)]) (.agg #[.pointer none]) wx Try.underlying82 (by decide) (by kernel_rfl)
    go_enter Try.func38, Try.ntmps38
    go_wp2_with fail
    refine (unhide HR).mono ?_
    rintro e w' ⟨rfl, hw'⟩
    subst hw'
    go_wp2_with fail
    go_ret
    exact ⟨rfl, rfl⟩
set_option maxRecDepth 100000 in
set_option maxHeartbeats 1000000 in
theorem propFull_any (b : Nat) (tm : Int) (la : Option Addr) (lc n : Nat) (k : Int) (d : ByteArray) (w : World) (hb : b < w.heap.size) (h1 : w.cell? ⟨b, 1, none⟩ = some (.int .i64 tm)) (h3 : w.cell? ⟨b, 3, none⟩ = some (.slice la n lc)) (h5 : w.cell? ⟨b, 5, none⟩ = some (.int .i64 2)) (hn : 60 ≤ n) :
    Calls Try.prog 38 #[.pointer (some ⟨b, 0, none⟩), .int .i64 k, .string d] w fun e w' => e = .returned (.int .i64 7) ∧ Below w.heap.size w w' := by
  have HA := hide (fun wx (hx : Below w.heap.size w wx) => addFull_any b la lc n tm k d wx (Nat.lt_of_lt_of_le hb hx.size) ((hx.cell (p := ⟨b, 3, none⟩) hb).trans h3) hn)
  have E : roleV b 2 = .iface 82 (.agg #[.pointer (some ⟨b, 0, none⟩)]) := rfl
  have HR := hide (role_any b 2 w h5)
  rw [E] at HR
  have t1 := fun wx => ta_same (P := Try.prog) 82 79 _ (.agg #[.pointer (some ⟨b, 0, none⟩)]) wx Try.underlying82
  have R0 := hide (Blk.new w #[.pointer (some ⟨b, 0, none⟩)] 82 w.heap.size rfl)
  have RZ := hide (Blk.new w #[.pointer none] 82 w.heap.size rfl)
  have B0 := hide ((Below.refl w.heap.size w).alloc (Nat.le_refl _) (.cells #[.pointer (some ⟨b, 0, none⟩)] 82))
  have r0 := (unhide RZ).cell 0 rfl
  have f0 := (unhide RZ).fro 0
  clear E
  go_enter Try.func38, Try.ntmps38
  go_wp2_with fail
  refine (unhide HR).mono ?_
  rintro e w' ⟨rfl, hw'⟩
  have hw2 := hw'.symm
  clear hw'
  subst hw2
  go_wp2_with fail
  clear r0 f0 RZ
  generalize w.alloc (.cells #[.pointer (some ⟨b, 0, none⟩)] 82) = w1 at *
  have r0 := (unhide R0).cell 0 rfl
  have x1 := ((unhide B0).cell (p := ⟨b, 1, none⟩) hb).trans h1
  have hrb : w.heap.size < w1.heap.size := (unhide R0).1
  have B1 := hide (below_drewN (unhide B0) 1)
  have R1 := hide ((unhide R0).drewN 1)
  change Hid (Below w.heap.size w w1.drew) at B1
  change Hid (Blk w1.drew w.heap.size _) at R1
  have hrb2 : w.heap.size < w1.drew.heap.size := hrb
  refine wp_region_noPanic ?_
  refine wp_region_held_drew (S := (fun wx => wx.cell? ⟨w.heap.size, 0, none⟩ = some (.pointer (some ⟨b, 0, none⟩)) ∧ wx.cell? ⟨b, 1, none⟩ = some (.int .i64 tm))) (by kernel_rfl) ?_ (fun hHeld => ?_)
  · exact ⟨r0, x1⟩
  refine wpAnyH_take (i := 0) (oi := _) (v := ?_) rfl (by kernel_rfl) (by kernel_rfl) (by kernel_rfl) (fun _ _ _ h => h) (Or.inl ⟨by rfl, ?_⟩) (by assumption) ?_
  rotate_left 1
  · (intro wq hSw; (try dsimp only at hSw); (try simp only [List.getElem_toArray, List.getElem_cons_succ, List.getElem_cons_zero]); go_simp; try with_reducible rfl)
  (try simp only [Act.put, List.getElem_toArray, List.getElem_cons_succ, List.getElem_cons_zero, List.setIfInBounds_toArray, List.set_cons_zero, List.set_cons_succ])
  refine wpAnyH_take (i := 1) (oi := _) (v := ?_) rfl (by kernel_rfl) (by kernel_rfl) (by kernel_rfl) (fun _ _ _ h => h) (Or.inl ⟨by rfl, ?_⟩) (by assumption) ?_
  rotate_left 1
  · (intro wq hSw; (try dsimp only at hSw); (try simp only [List.getElem_toArray, List.getElem_cons_succ, List.getElem_cons_zero]); go_simp; try with_reducible rfl)
  (try simp only [Act.put, List.getElem_toArray, List.getElem_cons_succ, List.getElem_cons_zero, List.setIfInBounds_toArray, List.set_cons_zero, List.set_cons_succ])
  refine wpAnyH_take (i := 2) (oi := _) (v := ?_) rfl (by kernel_rfl) (by kernel_rfl) (by kernel_rfl) (fun _ _ _ h => h) (Or.inl ⟨by rfl, ?_⟩) (by assumption) ?_
  rotate_left 1
  · (intro wq hSw; (try dsimp only at hSw); (try simp only [List.getElem_toArray, List.getElem_cons_succ, List.getElem_cons_zero]); go_simp; try with_reducible rfl)
  (try simp only [Act.put, List.getElem_toArray, List.getElem_cons_succ, List.getElem_cons_zero, List.setIfInBounds_toArray, List.set_cons_zero, List.set_cons_succ])
  refine wpAnyH_take (i := 3) (oi := _) (v := ?_) rfl (by kernel_rfl) (by kernel_rfl) (by kernel_rfl) (fun _ _ _ h => h) (Or.inl ⟨by rfl, ?_⟩) (by assumption) ?_
  rotate_left 1
  · (intro wq hSw; (try dsimp only at hSw); (try simp only [List.getElem_toArray, List.getElem_cons_succ, List.getElem_cons_zero]); go_simp; try with_reducible rfl)
  (try simp only [Act.put, List.getElem_toArray, List.getElem_cons_succ, List.getElem_cons_zero, List.setIfInBounds_toArray, List.set_cons_zero, List.set_cons_succ])
  refine wpAnyH_take (i := 4) (oi := _) (v := ?_) rfl (by kernel_rfl) (by kernel_rfl) (by kernel_rfl) (fun _ _ _ h => h) (Or.inl ⟨by rfl, ?_⟩) (by assumption) ?_
  rotate_left 1
  · (intro wq hSw; (try dsimp only at hSw); (try simp only [List.getElem_toArray, List.getElem_cons_succ, List.getElem_cons_zero]); go_simp; try with_reducible rfl)
  (try simp only [Act.put, List.getElem_toArray, List.getElem_cons_succ, List.getElem_cons_zero, List.setIfInBounds_toArray, List.set_cons_zero, List.set_cons_succ])
  refine wpAnyH_take (i := 5) (oi := _) (v := ?_) rfl (by kernel_rfl) (by kernel_rfl) (by kernel_rfl) (fun _ _ _ h => h) (Or.inl ⟨by rfl, ?_⟩) (by assumption) ?_
  rotate_left 1
  · (intro wq hSw; (try dsimp only at hSw); (try simp only [List.getElem_toArray, List.getElem_cons_succ, List.getElem_cons_zero]); go_simp; try with_reducible rfl)
  (try simp only [Act.put, List.getElem_toArray, List.getElem_cons_succ, List.getElem_cons_zero, List.setIfInBounds_toArray, List.set_cons_zero, List.set_cons_succ])
  refine wpAnyH_take (i := 6) (oi := _) (v := ?_) rfl (by kernel_rfl) (by kernel_rfl) (by kernel_rfl) (fun _ _ _ h => h) (Or.inl ⟨by rfl, ?_⟩) (by assumption) ?_
  rotate_left 1
  · (intro wq hSw; (try dsimp only at hSw); (try simp only [List.getElem_toArray, List.getElem_cons_succ, List.getElem_cons_zero]); go_simp; try with_reducible rfl)
  (try simp only [Act.put, List.getElem_toArray, List.getElem_cons_succ, List.getElem_cons_zero, List.setIfInBounds_toArray, List.set_cons_zero, List.set_cons_succ])
  refine wpAnyH_take (i := 7) (oi := _) (v := ?_) rfl (by kernel_rfl) (by kernel_rfl) (by kernel_rfl) (fun _ _ _ h => h) (Or.inl ⟨by rfl, ?_⟩) (by assumption) ?_
  rotate_left 1
  · (intro wq hSw; (try dsimp only at hSw); (try simp only [List.getElem_toArray, List.getElem_cons_succ, List.getElem_cons_zero]); go_simp; try with_reducible rfl)
  (try simp only [Act.put, List.getElem_toArray, List.getElem_cons_succ, List.getElem_cons_zero, List.setIfInBounds_toArray, List.set_cons_zero, List.set_cons_succ])
  refine wpAnyH_take (i := 8) (oi := _) (v := ?_) rfl (by kernel_rfl) (by kernel_rfl) (by kernel_rfl) (fun _ _ _ h => h) (Or.inl ⟨by rfl, ?_⟩) (by assumption) ?_
  rotate_left 1
  · (intro wq hSw; (try dsimp only at hSw); (try simp only [List.getElem_toArray, List.getElem_cons_succ, List.getElem_cons_zero]); go_simp; try with_reducible rfl)
  (try simp only [Act.put, List.getElem_toArray, List.getElem_cons_succ, List.getElem_cons_zero, List.setIfInBounds_toArray, List.set_cons_zero, List.set_cons_succ])
  clear r0 x1 R0 B0 hrb
  generalize w1.drew = w2 at *
  refine wpAnyH_ready (rs := [9]) (by kernel_rfl) (by simp) ?_
  refine AllReadyH.cons (o := _) rfl (fun K hK => ?_) AllReadyH.nil
  go_simp
  refine (unhide HA _ (unhide B1)).mono ?_
  rintro e w3 ⟨rfl, hb3⟩
  have HB3 := hide ((unhide B1).trans (hb3.mono (unhide B1).size))
  have hbX := hb3
  go_wp2_with fail
  refine hK.out _ _ ?_ (fun hHeld => ?_)
  · exact ⟨(hbX.cell (p := ⟨w.heap.size, 0, none⟩) (by omega)).trans ((unhide R1).cell 0 rfl), ((unhide HB3).cell (p := ⟨b, 1, none⟩) hb).trans h1⟩
  clear hK K
  (try simp only [Act.put, List.getElem_toArray, List.getElem_cons_succ, List.getElem_cons_zero, List.setIfInBounds_toArray, List.set_cons_zero, List.set_cons_succ])
  refine wpAnyH_take (i := 10) (oi := _) (v := ?_) rfl (by kernel_rfl) (by kernel_rfl) (by kernel_rfl) (fun _ _ _ h => h) (Or.inl ⟨by rfl, ?_⟩) (by assumption) ?_
  rotate_left 1
  · (intro wq hSw; (try dsimp only at hSw); (try simp only [List.getElem_toArray, List.getElem_cons_succ, List.getElem_cons_zero]); go_simp; try with_reducible rfl)
  (try simp only [Act.put, List.getElem_toArray, List.getElem_cons_succ, List.getElem_cons_zero, List.setIfInBounds_toArray, List.set_cons_zero, List.set_cons_succ])
  refine wpAnyH_done (by kernel_rfl) (NoPanic.normal ?_) _
  go_wp2_with fail
  go_ret
  exact ⟨rfl, unhide HB3⟩
set_option maxRecDepth 100000 in
set_option maxHeartbeats 1000000 in
theorem propAdd_any (B b : Nat) (id tm vo ro cm el wt : Int) (up : Bool) (lg : List En) (st vs nx mt : List Int) (la : Option Addr) (lc : Nat) (sa : Option Addr) (sc : Nat) (va : Option Addr) (vc : Nat) (na : Option Addr) (nc : Nat) (ma : Option Addr) (mc : Nat) (k : Int) (d : ByteArray) (w : World) (hX : Blk w b [.int .i64 id, .int .i64 tm, .int .i64 vo, .slice la lg.length lc, .slice sa st.length sc, .int .i64 ro, .slice va vs.length vc, .slice na nx.length nc, .slice ma mt.length mc, .int .i64 cm, .int .i64 el, .int .i64 wt, .bool up, .slice none 0 0]) (hro : ro = 2) (hO : NoO B w (.slice la lg.length lc) (.slice sa st.length sc) (.slice va vs.length vc) (.slice na nx.length nc) (.slice ma mt.length mc) lg st vs nx mt) (hap : ∀ v ∈ ([.slice la lg.length lc, .slice sa st.length sc, .slice va vs.length vc, .slice na nx.length nc, .slice ma mt.length mc] : List Value), v.ownBlock ≠ some b) (hB : B ≤ w.heap.size) (hz : ∀ i, (lg.getD i default).d.size ≤ maxLen) (hd : d.size ≤ maxLen) (hk2 : k ≠ 2) (hl : lg.length < 60) (hg : CfgOK lg) (hst : mFault st = 0) (hnx : nx.length = 7) (hmt : mt.length = 7) (hc : 0 ≤ cm) (hnn : ∀ i, i < 7 → 1 ≤ nx.getD i 0 ∧ nx.getD i 0 ≤ (lg.length : Int) + 1) :
    Calls Try.prog 38 #[.pointer (some ⟨b, 0, none⟩), .int .i64 k, .string d] w fun e w' => e = .returned (.int .i64 0) ∧ AddR B b id tm vo ro cm el wt up lg st vs nx mt la lc sa sc va vc na nc ma mc tm k d w w' := by
  have hb := hX.1
  have h1 := hX.cell 1 rfl
  have h5 : w.cell? ⟨b, 5, none⟩ = some (.int .i64 2) := by rw [← hro]; exact hX.cell 5 rfl
  have HA := hide (fun wx (hx : Below w.heap.size w wx) => add_any B b id tm vo ro cm el wt up lg st vs nx mt la lc sa sc va vc na nc ma mc tm k d wx (hX.below hx) (hO.below hx) hap (Nat.le_trans hB hx.size) hz hd hk2 hl hg hst hnx hmt hc hnn)
  have HBL := hide (fun q (e : (Value.slice la lg.length lc).ownBlock = some q) => (NoO.blk hO q ⟨_, by simp, e⟩).2)
  clear hX hO hap hB hz hd hk2 hl hg hst hnx hmt hc hnn
  have E : roleV b 2 = .iface 82 (.agg #[.pointer (some ⟨b, 0, none⟩)]) := rfl
  have HR := hide (role_any b 2 w h5)
  rw [E] at HR
  have t1 := fun wx => ta_same (P := Try.prog) 82 79 _ (.agg #[.pointer (some ⟨b, 0, none⟩)]) wx Try.underlying82
  have R0 := hide (Blk.new w #[.pointer (some ⟨b, 0, none⟩)] 82 w.heap.size rfl)
  have RZ := hide (Blk.new w #[.pointer none] 82 w.heap.size rfl)
  have B0 := hide ((Below.refl w.heap.size w).alloc (Nat.le_refl _) (.cells #[.pointer (some ⟨b, 0, none⟩)] 82))
  have r0 := (unhide RZ).cell 0 rfl
  have f0 := (unhide RZ).fro 0
  clear E
  go_enter Try.func38, Try.ntmps38
  go_wp2_with fail
  refine (unhide HR).mono ?_
  rintro e w' ⟨rfl, hw'⟩
  have hw2 := hw'.symm
  clear hw'
  subst hw2
  go_wp2_with fail
  clear r0 f0 RZ
  generalize w.alloc (.cells #[.pointer (some ⟨b, 0, none⟩)] 82) = w1 at *
  have r0 := (unhide R0).cell 0 rfl
  have x1 := ((unhide B0).cell (p := ⟨b, 1, none⟩) hb).trans h1
  have hrb : w.heap.size < w1.heap.size := (unhide R0).1
  have B1 := hide (below_drewN (unhide B0) 1)
  have R1 := hide ((unhide R0).drewN 1)
  change Hid (Below w.heap.size w w1.drew) at B1
  change Hid (Blk w1.drew w.heap.size _) at R1
  have hrb2 : w.heap.size < w1.drew.heap.size := hrb
  refine wp_region_noPanic ?_
  refine wp_region_held_drew (S := (fun wx => wx.cell? ⟨w.heap.size, 0, none⟩ = some (.pointer (some ⟨b, 0, none⟩)) ∧ wx.cell? ⟨b, 1, none⟩ = some (.int .i64 tm))) (by kernel_rfl) ?_ (fun hHeld => ?_)
  · exact ⟨r0, x1⟩
  refine wpAnyH_take (i := 0) (oi := _) (v := ?_) rfl (by kernel_rfl) (by kernel_rfl) (by kernel_rfl) (fun _ _ _ h => h) (Or.inl ⟨by rfl, ?_⟩) (by assumption) ?_
  rotate_left 1
  · (intro wq hSw; (try dsimp only at hSw); (try simp only [List.getElem_toArray, List.getElem_cons_succ, List.getElem_cons_zero]); go_simp; try with_reducible rfl)
  (try simp only [Act.put, List.getElem_toArray, List.getElem_cons_succ, List.getElem_cons_zero, List.setIfInBounds_toArray, List.set_cons_zero, List.set_cons_succ])
  refine wpAnyH_take (i := 1) (oi := _) (v := ?_) rfl (by kernel_rfl) (by kernel_rfl) (by kernel_rfl) (fun _ _ _ h => h) (Or.inl ⟨by rfl, ?_⟩) (by assumption) ?_
  rotate_left 1
  · (intro wq hSw; (try dsimp only at hSw); (try simp only [List.getElem_toArray, List.getElem_cons_succ, List.getElem_cons_zero]); go_simp; try with_reducible rfl)
  (try simp only [Act.put, List.getElem_toArray, List.getElem_cons_succ, List.getElem_cons_zero, List.setIfInBounds_toArray, List.set_cons_zero, List.set_cons_succ])
  refine wpAnyH_take (i := 2) (oi := _) (v := ?_) rfl (by kernel_rfl) (by kernel_rfl) (by kernel_rfl) (fun _ _ _ h => h) (Or.inl ⟨by rfl, ?_⟩) (by assumption) ?_
  rotate_left 1
  · (intro wq hSw; (try dsimp only at hSw); (try simp only [List.getElem_toArray, List.getElem_cons_succ, List.getElem_cons_zero]); go_simp; try with_reducible rfl)
  (try simp only [Act.put, List.getElem_toArray, List.getElem_cons_succ, List.getElem_cons_zero, List.setIfInBounds_toArray, List.set_cons_zero, List.set_cons_succ])
  refine wpAnyH_take (i := 3) (oi := _) (v := ?_) rfl (by kernel_rfl) (by kernel_rfl) (by kernel_rfl) (fun _ _ _ h => h) (Or.inl ⟨by rfl, ?_⟩) (by assumption) ?_
  rotate_left 1
  · (intro wq hSw; (try dsimp only at hSw); (try simp only [List.getElem_toArray, List.getElem_cons_succ, List.getElem_cons_zero]); go_simp; try with_reducible rfl)
  (try simp only [Act.put, List.getElem_toArray, List.getElem_cons_succ, List.getElem_cons_zero, List.setIfInBounds_toArray, List.set_cons_zero, List.set_cons_succ])
  refine wpAnyH_take (i := 4) (oi := _) (v := ?_) rfl (by kernel_rfl) (by kernel_rfl) (by kernel_rfl) (fun _ _ _ h => h) (Or.inl ⟨by rfl, ?_⟩) (by assumption) ?_
  rotate_left 1
  · (intro wq hSw; (try dsimp only at hSw); (try simp only [List.getElem_toArray, List.getElem_cons_succ, List.getElem_cons_zero]); go_simp; try with_reducible rfl)
  (try simp only [Act.put, List.getElem_toArray, List.getElem_cons_succ, List.getElem_cons_zero, List.setIfInBounds_toArray, List.set_cons_zero, List.set_cons_succ])
  refine wpAnyH_take (i := 5) (oi := _) (v := ?_) rfl (by kernel_rfl) (by kernel_rfl) (by kernel_rfl) (fun _ _ _ h => h) (Or.inl ⟨by rfl, ?_⟩) (by assumption) ?_
  rotate_left 1
  · (intro wq hSw; (try dsimp only at hSw); (try simp only [List.getElem_toArray, List.getElem_cons_succ, List.getElem_cons_zero]); go_simp; try with_reducible rfl)
  (try simp only [Act.put, List.getElem_toArray, List.getElem_cons_succ, List.getElem_cons_zero, List.setIfInBounds_toArray, List.set_cons_zero, List.set_cons_succ])
  refine wpAnyH_take (i := 6) (oi := _) (v := ?_) rfl (by kernel_rfl) (by kernel_rfl) (by kernel_rfl) (fun _ _ _ h => h) (Or.inl ⟨by rfl, ?_⟩) (by assumption) ?_
  rotate_left 1
  · (intro wq hSw; (try dsimp only at hSw); (try simp only [List.getElem_toArray, List.getElem_cons_succ, List.getElem_cons_zero]); go_simp; try with_reducible rfl)
  (try simp only [Act.put, List.getElem_toArray, List.getElem_cons_succ, List.getElem_cons_zero, List.setIfInBounds_toArray, List.set_cons_zero, List.set_cons_succ])
  refine wpAnyH_take (i := 7) (oi := _) (v := ?_) rfl (by kernel_rfl) (by kernel_rfl) (by kernel_rfl) (fun _ _ _ h => h) (Or.inl ⟨by rfl, ?_⟩) (by assumption) ?_
  rotate_left 1
  · (intro wq hSw; (try dsimp only at hSw); (try simp only [List.getElem_toArray, List.getElem_cons_succ, List.getElem_cons_zero]); go_simp; try with_reducible rfl)
  (try simp only [Act.put, List.getElem_toArray, List.getElem_cons_succ, List.getElem_cons_zero, List.setIfInBounds_toArray, List.set_cons_zero, List.set_cons_succ])
  refine wpAnyH_take (i := 8) (oi := _) (v := ?_) rfl (by kernel_rfl) (by kernel_rfl) (by kernel_rfl) (fun _ _ _ h => h) (Or.inl ⟨by rfl, ?_⟩) (by assumption) ?_
  rotate_left 1
  · (intro wq hSw; (try dsimp only at hSw); (try simp only [List.getElem_toArray, List.getElem_cons_succ, List.getElem_cons_zero]); go_simp; try with_reducible rfl)
  (try simp only [Act.put, List.getElem_toArray, List.getElem_cons_succ, List.getElem_cons_zero, List.setIfInBounds_toArray, List.set_cons_zero, List.set_cons_succ])
  clear r0 x1 R0 B0 hrb
  generalize w1.drew = w2 at *
  refine wpAnyH_ready (rs := [9]) (by kernel_rfl) (by simp) ?_
  refine AllReadyH.cons (o := _) rfl (fun K hK => ?_) AllReadyH.nil
  go_simp
  refine (unhide HA _ (unhide B1)).mono ?_
  rintro e w3 ⟨rfl, hA⟩
  have HR3 := hide (hA.from (unhide B1))
  obtain ⟨la', lc', v, l, D, g1, g2, g3, g4, g5, g6, g7, g8⟩ := hA
  have hk3 := g1.cell 1 rfl
  have hk0 := (g8.cell (p := ⟨w.heap.size, 0, none⟩) (by show w.heap.size < w2.heap.size; omega) (fun e => e.elim (fun e => absurd e (by show ¬ w.heap.size = b; omega)) (fun e => absurd (unhide HBL w.heap.size e) (Nat.lt_irrefl _)))).trans ((unhide R1).cell 0 rfl)
  clear g1 g2 g3 g4 g5 g6 g7 g8
  go_wp2_with fail
  refine hK.out _ _ ?_ (fun hHeld => ?_)
  · exact ⟨hk0, hk3⟩
  clear hK K
  (try simp only [Act.put, List.getElem_toArray, List.getElem_cons_succ, List.getElem_cons_zero, List.setIfInBounds_toArray, List.set_cons_zero, List.set_cons_succ])
  refine wpAnyH_take (i := 10) (oi := _) (v := ?_) rfl (by kernel_rfl) (by kernel_rfl) (by kernel_rfl) (fun _ _ _ h => h) (Or.inl ⟨by rfl, ?_⟩) (by assumption) ?_
  rotate_left 1
  · (intro wq hSw; (try dsimp only at hSw); (try simp only [List.getElem_toArray, List.getElem_cons_succ, List.getElem_cons_zero]); go_simp; try with_reducible rfl)
  (try simp only [Act.put, List.getElem_toArray, List.getElem_cons_succ, List.getElem_cons_zero, List.setIfInBounds_toArray, List.set_cons_zero, List.set_cons_succ])
  refine wpAnyH_done (by kernel_rfl) (NoPanic.normal ?_) _
  go_wp2_with fail
  go_ret
  exact ⟨rfl, unhide HR3⟩
end Go.Proofs.Ytglkgmijcefjkaa
namespace Go.Proofs.Ytglkgmijcefjkaa
open Go.ChangeShapes Go.WideShapes Go.ChangeAt Go.RowKit
set_option linter.unusedVariables false

/-- A node, as data. -/
structure NoD where
  id : Int
  tm : Int
  vo : Int
  ro : Int
  cm : Int
  el : Int
  wt : Int
  up : Bool
  lg : List En
  st : List Int
  vs : List Int
  nx : List Int
  mt : List Int
def zeroNo : NoD := ⟨0, 0, 0, 0, 0, 0, 0, false, [], [], [], [], []⟩
/-- A node, the call's own, and a code come out. -/
def NAns (B : Nat) (d : NoD) (code : Int) (w : World) (e : Ending) (w' : World) : Prop :=
  ∃ la lc sa sc va vc na nc ma mc, e = .returned (.tuple #[.agg #[.int .i64 d.id, .int .i64 d.tm, .int .i64 d.vo, .slice la d.lg.length lc, .slice sa d.st.length sc, .int .i64 d.ro, .slice va d.vs.length vc, .slice na d.nx.length nc, .slice ma d.mt.length mc, .int .i64 d.cm, .int .i64 d.el, .int .i64 d.wt, .bool d.up], .int .i64 code]) ∧ NoO B w' (.slice la d.lg.length lc) (.slice sa d.st.length sc) (.slice va d.vs.length vc) (.slice na d.nx.length nc) (.slice ma d.mt.length mc) d.lg d.st d.vs d.nx d.mt ∧ Below w.heap.size w w'
theorem noO_zero (B : Nat) (w : World) : NoO B w (.slice none 0 0) (.slice none 0 0) (.slice none 0 0) (.slice none 0 0) (.slice none 0 0) [] [] [] [] [] := by
  have nn : ∀ v : Value, Apart (.slice none 0 0) v := fun v k h1 _ => by cases h1
  exact ⟨⟨rfl, .inl ⟨rfl, rfl⟩⟩, ⟨rfl, .inl ⟨rfl, rfl⟩⟩, ⟨rfl, .inl ⟨rfl, rfl⟩⟩, ⟨rfl, .inl ⟨rfl, rfl⟩⟩, ⟨rfl, .inl ⟨rfl, rfl⟩⟩, by
    simp only [List.pairwise_cons, List.mem_cons, List.not_mem_nil, or_false, or_self, forall_eq, List.Pairwise.nil, and_true, false_implies, implies_true]
    exact ⟨nn _, nn _, nn _, nn _⟩⟩
end Go.Proofs.Ytglkgmijcefjkaa
namespace Go.Proofs.Ytglkgmijcefjkaa
open Go.ChangeShapes Go.WideShapes Go.ChangeAt Go.RowKit Go.Deep
set_option linter.unusedVariables false

/-- A node, messages and a code come out: all of it the call's own, the node's lists and the messages' apart. -/
def PAns (B : Nat) (d : NoD) (ms : List MV) (code : Int) (w : World) (e : Ending) (w' : World) : Prop :=
  ∃ la lc sa sc va vc na nc ma mc mv l, e = .returned (.tuple #[.agg #[.int .i64 d.id, .int .i64 d.tm, .int .i64 d.vo, .slice la d.lg.length lc, .slice sa d.st.length sc, .int .i64 d.ro, .slice va d.vs.length vc, .slice na d.nx.length nc, .slice ma d.mt.length mc, .int .i64 d.cm, .int .i64 d.el, .int .i64 d.wt, .bool d.up], mv, .int .i64 code]) ∧ NoO B w' (.slice la d.lg.length lc) (.slice sa d.st.length sc) (.slice va d.vs.length vc) (.slice na d.nx.length nc) (.slice ma d.mt.length mc) d.lg d.st d.vs d.nx d.mt ∧ Ns mgS B w' mv l.length l ∧ l.map bareM = ms ∧ (∀ q, NoT [.slice la d.lg.length lc, .slice sa d.st.length sc, .slice va d.vs.length vc, .slice na d.nx.length nc, .slice ma d.mt.length mc] q → ¬ NsT mgS mv l q) ∧ Below w.heap.size w w'
/-- What a proposal leaves of a right node. -/
def prOut (n : NoD) (k : Int) (data : ByteArray) : NoD × List MV × Int :=
  if n.up then
    if n.ro = 2 then
      if n.lg.length < 60 then
        ({ n with lg := n.lg ++ [(⟨n.tm, k, data⟩ : En)], cm := advTo n.id n.tm n.cm (n.lg ++ [(⟨n.tm, k, data⟩ : En)]) n.mt (mbAt (n.lg ++ [(⟨n.tm, k, data⟩ : En)]) n.st (n.lg ++ [(⟨n.tm, k, data⟩ : En)]).length) (n.lg ++ [(⟨n.tm, k, data⟩ : En)]).length },
          tellL n.id n.tm (advTo n.id n.tm n.cm (n.lg ++ [(⟨n.tm, k, data⟩ : En)]) n.mt (mbAt (n.lg ++ [(⟨n.tm, k, data⟩ : En)]) n.st (n.lg ++ [(⟨n.tm, k, data⟩ : En)]).length) (n.lg ++ [(⟨n.tm, k, data⟩ : En)]).length) (n.lg ++ [(⟨n.tm, k, data⟩ : En)]) n.nx (mbAt (n.lg ++ [(⟨n.tm, k, data⟩ : En)]) n.st (n.lg ++ [(⟨n.tm, k, data⟩ : En)]).length), 0)
      else (n, [], 7)
    else (n, [], 14)
  else (n, [], 5)
/-- What NodePropose tells. -/
def npOut (ok : Bool) (n : NoD) (data : ByteArray) : NoD × List MV × Int :=
  if 65536 < data.size then (zeroNo, [], 2) else if ok && inB data.size 1 100 then prOut n 1 data else (zeroNo, [], 1)
theorem nsT_ge {S : Sh MV} {D n : Nat} {w : World} {v : Value} {l : List MV} (h : Ns S D w v n l) (q : Nat) (hq : NsT S v l q) : D ≤ q ∧ q < w.heap.size := by
  rcases hq with hq | ⟨p, hp, hq⟩
  · exact World.ownsRow.lt h.row q hq
  · exact (h.sub p hp).lt q hq
theorem nsT_nil (q : Nat) : ¬ NsT mgS (.slice none 0 0) [] q := by
  rintro (h | ⟨p, hp, _⟩)
  · cases h
  · simp at hp
theorem told_next {nx mt : List Int} {e : Int} (h : toldB nx mt e = true) (i : Nat) (hi : i < 7) : 1 ≤ nx.getD i 0 ∧ nx.getD i 0 ≤ e + 1 := by
  unfold toldB at h
  simp only [Bool.and_eq_true, List.all_eq_true, List.mem_range] at h
  have h1 := h.2 i hi
  unfold toldI at h1
  simp only [Bool.and_eq_true] at h1
  exact inB_iff.1 h1.1
theorem node_next {id tm vo ro cm el wt : Int} {up : Bool} {lg : List En} {st vs nx mt : List Int} (h : nodeB id tm vo ro cm el wt up lg st vs nx mt = true) : (∀ i, i < 7 → 1 ≤ nx.getD i 0 ∧ nx.getD i 0 ≤ (lg.length : Int) + 1) ∧ 0 ≤ cm ∧ cm ≤ lg.length := by
  unfold nodeB at h
  simp only [Bool.and_eq_true, decide_eq_true_eq] at h
  obtain ⟨h1, h2, h3, h4, h5, h6, h7, _⟩ := h
  exact ⟨told_next h6, inB_iff.1 h7⟩
end Go.Proofs.Ytglkgmijcefjkaa
namespace Go.Proofs.Ytglkgmijcefjkaa
open Go.ChangeShapes Go.WideShapes Go.ChangeAt Go.RowKit Go.Deep
set_option linter.unusedVariables false
set_option linter.unusedSimpArgs false

theorem NoO.mono {B B' : Nat} {w : World} {lv sv vv nv mv : Value} {lg : List En} {st vs nx mt : List Int} (h : NoO B w lv sv vv nv mv lg st vs nx mt) (hB : B' ≤ B) : NoO B' w lv sv vv nv mv lg st vs nx mt :=
  ⟨World.ownsRow.mono h.lg hB, h.st.mono hB, h.vs.mono hB, h.nx.mono hB, h.mt.mono hB, h.ap⟩
/-- An actor that was asked something: the node it is now, what it sends, a code. -/
def PropR (B b : Nat) (n : NoD) (ms : List MV) (code : Int) (w : World) (e : Ending) (w' : World) : Prop :=
  ∃ la lc sa sc va vc na nc ma mc v l, e = .returned (.int .i64 code) ∧ Blk w' b [.int .i64 n.id, .int .i64 n.tm, .int .i64 n.vo, .slice la n.lg.length lc, .slice sa n.st.length sc, .int .i64 n.ro, .slice va n.vs.length vc, .slice na n.nx.length nc, .slice ma n.mt.length mc, .int .i64 n.cm, .int .i64 n.el, .int .i64 n.wt, .bool n.up, v] ∧ NoO B w' (.slice la n.lg.length lc) (.slice sa n.st.length sc) (.slice va n.vs.length vc) (.slice na n.nx.length nc) (.slice ma n.mt.length mc) n.lg n.st n.vs n.nx n.mt ∧ Ns mgS B w' v l.length l ∧ l.map bareM = ms ∧ (∀ q, NoT [.slice la n.lg.length lc, .slice sa n.st.length sc, .slice va n.vs.length vc, .slice na n.nx.length nc, .slice ma n.mt.length mc] q → q ≠ b ∧ ¬ NsT mgS v l q) ∧ (∀ q, NsT mgS v l q → q ≠ b) ∧ Touch (fun q => B ≤ q) w w'
set_option maxHeartbeats 1000000 in
theorem propAll_any (B b : Nat) (id tm vo ro cm el wt : Int) (up : Bool) (lg : List En) (st vs nx mt : List Int) (la : Option Addr) (lc : Nat) (sa : Option Addr) (sc : Nat) (va : Option Addr) (vc : Nat) (na : Option Addr) (nc : Nat) (ma : Option Addr) (mc : Nat) (k : Int) (d : ByteArray) (w : World) (hA : Actor B w b id tm vo ro cm el wt up (.slice la lg.length lc) (.slice sa st.length sc) (.slice va vs.length vc) (.slice na nx.length nc) (.slice ma mt.length mc) lg st vs nx mt) (hB : B ≤ w.heap.size) (hz : ∀ i, (lg.getD i default).d.size ≤ maxLen) (hd : d.size ≤ maxLen) (hk2 : k ≠ 2) (hl : lg.length ≤ 60) (hg : CfgOK lg) (hst : mFault st = 0) (hnx : nx.length = 7) (hmt : mt.length = 7) (hc : 0 ≤ cm) (hnn : ∀ i, i < 7 → 1 ≤ nx.getD i 0 ∧ nx.getD i 0 ≤ (lg.length : Int) + 1) (hup : up = true) :
    Calls Try.prog 38 #[.pointer (some ⟨b, 0, none⟩), .int .i64 k, .string d] w fun e w' => PropR B b (prOut ⟨id, tm, vo, ro, cm, el, wt, up, lg, st, vs, nx, mt⟩ k d).1 (prOut ⟨id, tm, vo, ro, cm, el, wt, up, lg, st, vs, nx, mt⟩ k d).2.1 (prOut ⟨id, tm, vo, ro, cm, el, wt, up, lg, st, vs, nx, mt⟩ k d).2.2 w e w' := by
  subst hup
  have hX := hA.bk
  have hb := hX.1
  have hno : ∀ q, NoT ([.slice la lg.length lc, .slice sa st.length sc, .slice va vs.length vc, .slice na nx.length nc, .slice ma mt.length mc]) q → q ≠ b ∧ ¬ NsT mgS (.slice none 0 0) [] q := fun q hq => ⟨fun e => by obtain ⟨v, hv, hvq⟩ := hq; exact hA.ap v hv (by rw [hvq, e]), nsT_nil q⟩
  by_cases h2 : ro = 2
  · by_cases h60 : lg.length < 60
    · refine (propAdd_any B b id tm vo ro cm el wt true lg st vs nx mt la lc sa sc va vc na nc ma mc k d w hX h2 hA.no hA.ap hB hz hd hk2 h60 hg hst hnx hmt hc hnn).mono ?_
      rintro e w' ⟨rfl, hR⟩
      obtain ⟨la', lc', v, l, D, g1, g2, g3, g4, g5, g6, g7, g8⟩ := hR
      unfold prOut
      simp only [h2, h60, if_true]
      rw [h2] at g1
      refine ⟨la', lc', sa, sc, va, vc, na, nc, ma, mc, v, l, rfl, g1, g2, g3.down (by omega), g4, fun q hq => ⟨(g5 q hq).1, fun e => ?_⟩, fun q hq e => ?_, g8.trans (T' := fun _ => False) (Touch.refl _ _) (fun _ _ e => e.elim) |> fun t => ⟨t.os, t.tape, t.output, t.size, fun j hj hn => t.block j hj (fun e => hn ?_)⟩⟩
      · have := nsT_ge g3 q e; have := (g5 q hq).2; omega
      · have := nsT_ge g3 q hq; omega
      · rcases e with e | e
        · rw [e]; exact hA.lo
        · exact (NoO.blk hA.no j ⟨_, by simp, e⟩).1
    · refine (propFull_any b tm la lc lg.length k d w hb (hX.cell 1 rfl) (hX.cell 3 rfl) (by rw [← h2]; exact hX.cell 5 rfl) (by omega)).mono ?_
      rintro e w' ⟨rfl, hbw⟩
      unfold prOut
      simp only [h2, h60, if_true, if_false]
      rw [h2] at hX
      exact ⟨la, lc, sa, sc, va, vc, na, nc, ma, mc, .slice none 0 0, [], rfl, hX.below hbw, hA.no.below hbw, Ns.nil _ _ _, rfl, hno, fun q hq => absurd hq (nsT_nil q), Touch.ofBelow hbw⟩
  · refine (propNo_any b ro k d w (hX.cell 5 rfl) h2).mono ?_
    rintro e w' ⟨rfl, hw⟩
    subst hw
    unfold prOut
    simp only [h2, if_true, if_false]
    exact ⟨la, lc, sa, sc, va, vc, na, nc, ma, mc, .slice none 0 0, [], rfl, hX, hA.no, Ns.nil _ _ _, rfl, hno, fun q hq => absurd hq (nsT_nil q), Touch.refl _ _⟩
set_option maxRecDepth 100000 in
set_option maxHeartbeats 4000000 in
theorem implNodePropose_any (id tm vo ro cm el wt : Int) (up : Bool) (lg : List En) (st vs nx mt : List Int) (la : Option Addr) (lc : Nat) (sa : Option Addr) (sc : Nat) (va : Option Addr) (vc : Nat) (na : Option Addr) (nc : Nat) (ma : Option Addr) (mc : Nat) (data : ByteArray) (w : World) (h : NoR w (.slice la lg.length lc) (.slice sa st.length sc) (.slice va vs.length vc) (.slice na nx.length nc) (.slice ma mt.length mc) lg st vs nx mt) (hs : NoS lg st vs nx mt) (hds : data.size ≤ 1048576) :
    Calls Try.prog 16 #[.agg #[.int .i64 id, .int .i64 tm, .int .i64 vo, .slice la lg.length lc, .slice sa st.length sc, .int .i64 ro, .slice va vs.length vc, .slice na nx.length nc, .slice ma mt.length mc, .int .i64 cm, .int .i64 el, .int .i64 wt, .bool up], .string data] w fun e w' => PAns w.heap.size (npOut (nodeB id tm vo ro cm el wt up lg st vs nx mt) ⟨id, tm, vo, ro, cm, el, wt, up, lg, st, vs, nx, mt⟩ data).1 (npOut (nodeB id tm vo ro cm el wt up lg st vs nx mt) ⟨id, tm, vo, ro, cm, el, wt, up, lg, st, vs, nx, mt⟩ data).2.1 (npOut (nodeB id tm vo ro cm el wt up lg st vs nx mt) ⟨id, tm, vo, ro, cm, el, wt, up, lg, st, vs, nx, mt⟩ data).2.2 w e w' := by
  have B0 := hide (((Below.refl w.heap.size w).alloc (Nat.le_refl _) (.cells #[.int .i64 id, .int .i64 tm, .int .i64 vo, .slice la lg.length lc, .slice sa st.length sc, .int .i64 ro, .slice va vs.length vc, .slice na nx.length nc, .slice ma mt.length mc, .int .i64 cm, .int .i64 el, .int .i64 wt, .bool up] 29)).alloc (by simp) (.cells #[.int .i64 0, .int .i64 0, .int .i64 0, .slice none 0 0, .slice none 0 0, .int .i64 0, .slice none 0 0, .slice none 0 0, .slice none 0 0, .int .i64 0, .int .i64 0, .int .i64 0, .bool false] 29))
  have X0 := hide ((Blk.new w #[.int .i64 id, .int .i64 tm, .int .i64 vo, .slice la lg.length lc, .slice sa st.length sc, .int .i64 ro, .slice va vs.length vc, .slice na nx.length nc, .slice ma mt.length mc, .int .i64 cm, .int .i64 el, .int .i64 wt, .bool up] 29 w.heap.size rfl).alloc (.cells #[.int .i64 0, .int .i64 0, .int .i64 0, .slice none 0 0, .slice none 0 0, .int .i64 0, .slice none 0 0, .slice none 0 0, .slice none 0 0, .int .i64 0, .int .i64 0, .int .i64 0, .bool false] 29))
  have R0 := hide (Blk.new (w.alloc (.cells #[.int .i64 id, .int .i64 tm, .int .i64 vo, .slice la lg.length lc, .slice sa st.length sc, .int .i64 ro, .slice va vs.length vc, .slice na nx.length nc, .slice ma mt.length mc, .int .i64 cm, .int .i64 el, .int .i64 wt, .bool up] 29)) #[.int .i64 0, .int .i64 0, .int .i64 0, .slice none 0 0, .slice none 0 0, .int .i64 0, .slice none 0 0, .slice none 0 0, .slice none 0 0, .int .i64 0, .int .i64 0, .int .i64 0, .bool false] 29 (w.heap.size + 1) (by simp))
  have HN := hide (fun wx (hx : Below w.heap.size w wx) => implNodeOK_any id tm vo ro cm el wt up lg st vs nx mt la lc sa sc va vc na nc ma mc wx (h.below hx) hs)
  have HU : Hid (∀ ok, npOut ok ⟨id, tm, vo, ro, cm, el, wt, up, lg, st, vs, nx, mt⟩ data = if 65536 < data.size then (zeroNo, [], 2) else if ok && inB data.size 1 100 then prOut ⟨id, tm, vo, ro, cm, el, wt, up, lg, st, vs, nx, mt⟩ 1 data else (zeroNo, [], 1)) := hide (fun ok => rfl)
  have HCp := hide (fun wx (hx : Below w.heap.size w wx) (hh : nodeB id tm vo ro cm el wt up lg st vs nx mt = true) => copyNode_any id tm vo ro cm el wt up lg st vs nx mt la lc sa sc va vc na nc ma mc wx (h.below hx) (by have := node_small hh; omega) (by have := node_small hh; omega) (by have := node_small hh; omega) (by have := node_small hh; omega) (by have := node_small hh; omega))
  have HNA := hide (fun wx (hx : Below w.heap.size w wx) (hh : nodeB id tm vo ro cm el wt up lg st vs nx mt = true) => newActor_any id tm vo ro cm el wt up lg st vs nx mt la lc sa sc va vc na nc ma mc wx (h.below hx) (by have := node_small hh; omega) (by have := node_small hh; omega) (by have := node_small hh; omega) (by have := node_small hh; omega) (by have := node_small hh; omega))
  have HPr := hide (fun wx (B b : Nat) (la : Option Addr) (lc : Nat) (sa : Option Addr) (sc : Nat) (va : Option Addr) (vc : Nat) (na : Option Addr) (nc : Nat) (ma : Option Addr) (mc : Nat) (hh : nodeB id tm vo ro cm el wt up lg st vs nx mt = true) (hup : up = true) (hA : Actor B wx b id tm vo ro cm el wt up (.slice la lg.length lc) (.slice sa st.length sc) (.slice va vs.length vc) (.slice na nx.length nc) (.slice ma mt.length mc) lg st vs nx mt) (hB : B ≤ wx.heap.size) => propAll_any B b id tm vo ro cm el wt up lg st vs nx mt la lc sa sc va vc na nc ma mc 1 data wx hA hB (fun i => by have := hs.dt i; unfold maxLen; omega) (by unfold maxLen; omega) (by omega) (by have := node_small hh; omega) (cfg_of_node hh) (node_small hh).2.2.2.2.2.1 (node_small hh).2.2.2.1 (node_small hh).2.2.2.2.1 (node_next hh).2.1 (node_next hh).1 hup)
  clear h hs
  generalize nodeB id tm vo ro cm el wt up lg st vs nx mt = ok at *
  by_cases hbig : 65536 < data.size
  · have q1 : (65536 : Int) < (data.size : Int) := by omega
    have HU2 := hide (show npOut ok ⟨id, tm, vo, ro, cm, el, wt, up, lg, st, vs, nx, mt⟩ data = (zeroNo, [], 2) by rw [unhide HU, if_pos hbig])
    have RX := unhide R0
    have r0 := RX.cell 0 rfl
    have r1 := RX.cell 1 rfl
    have r2 := RX.cell 2 rfl
    have r3 := RX.cell 3 rfl
    have r4 := RX.cell 4 rfl
    have r5 := RX.cell 5 rfl
    have r6 := RX.cell 6 rfl
    have r7 := RX.cell 7 rfl
    have r8 := RX.cell 8 rfl
    have r9 := RX.cell 9 rfl
    have r10 := RX.cell 10 rfl
    have r11 := RX.cell 11 rfl
    have r12 := RX.cell 12 rfl
    have f0 := RX.fro 0
    have f1 := RX.fro 1
    have f2 := RX.fro 2
    have f3 := RX.fro 3
    have f4 := RX.fro 4
    have f5 := RX.fro 5
    have f6 := RX.fro 6
    have f7 := RX.fro 7
    have f8 := RX.fro 8
    have f9 := RX.fro 9
    have f10 := RX.fro 10
    have f11 := RX.fro 11
    have f12 := RX.fro 12
    have HR9 := hide ((((((((((((((RX.set 0 (.int .i64 0) (by simp)).set 1 (.int .i64 0) (by simp)).set 2 (.int .i64 0) (by simp)).set 3 (.slice none 0 0) (by simp)).set 4 (.slice none 0 0) (by simp)).set 5 (.int .i64 0) (by simp)).set 6 (.slice none 0 0) (by simp)).set 7 (.slice none 0 0) (by simp)).set 8 (.slice none 0 0) (by simp)).set 9 (.int .i64 0) (by simp)).set 10 (.int .i64 0) (by simp)).set 11 (.int .i64 0) (by simp)).set 12 (.bool false) (by simp)))
    have T9 := ((((((((((((((Touch.refl (fun q => q = w.heap.size + 1) ((w.alloc (.cells #[.int .i64 id, .int .i64 tm, .int .i64 vo, .slice la lg.length lc, .slice sa st.length sc, .int .i64 ro, .slice va vs.length vc, .slice na nx.length nc, .slice ma mt.length mc, .int .i64 cm, .int .i64 el, .int .i64 wt, .bool up] 29)).alloc (.cells #[.int .i64 0, .int .i64 0, .int .i64 0, .slice none 0 0, .slice none 0 0, .int .i64 0, .slice none 0 0, .slice none 0 0, .slice none 0 0, .int .i64 0, .int .i64 0, .int .i64 0, .bool false] 29))).setCell ⟨w.heap.size + 1, 0, none⟩ (.int .i64 0) (fun _ => rfl)).setCell ⟨w.heap.size + 1, 1, none⟩ (.int .i64 0) (fun _ => rfl)).setCell ⟨w.heap.size + 1, 2, none⟩ (.int .i64 0) (fun _ => rfl)).setCell ⟨w.heap.size + 1, 3, none⟩ (.slice none 0 0) (fun _ => rfl)).setCell ⟨w.heap.size + 1, 4, none⟩ (.slice none 0 0) (fun _ => rfl)).setCell ⟨w.heap.size + 1, 5, none⟩ (.int .i64 0) (fun _ => rfl)).setCell ⟨w.heap.size + 1, 6, none⟩ (.slice none 0 0) (fun _ => rfl)).setCell ⟨w.heap.size + 1, 7, none⟩ (.slice none 0 0) (fun _ => rfl)).setCell ⟨w.heap.size + 1, 8, none⟩ (.slice none 0 0) (fun _ => rfl)).setCell ⟨w.heap.size + 1, 9, none⟩ (.int .i64 0) (fun _ => rfl)).setCell ⟨w.heap.size + 1, 10, none⟩ (.int .i64 0) (fun _ => rfl)).setCell ⟨w.heap.size + 1, 11, none⟩ (.int .i64 0) (fun _ => rfl)).setCell ⟨w.heap.size + 1, 12, none⟩ (.bool false) (fun _ => rfl))
    have KW := unhide B0
    have K9 := hide (KW.trans (T9.below KW.size (fun k hk e => by omega)))
    have HT9 := hide T9
    clear RX T9 KW
    go_enter Try.func16, Try.ntmps16
    go_wp2_with fail
    have R9 := unhide HR9
    have z0 := R9.cell 0 rfl
    have z1 := R9.cell 1 rfl
    have z2 := R9.cell 2 rfl
    have z3 := R9.cell 3 rfl
    have z4 := R9.cell 4 rfl
    have z5 := R9.cell 5 rfl
    have z6 := R9.cell 6 rfl
    have z7 := R9.cell 7 rfl
    have z8 := R9.cell 8 rfl
    have z9 := R9.cell 9 rfl
    have z10 := R9.cell 10 rfl
    have z11 := R9.cell 11 rfl
    have z12 := R9.cell 12 rfl
    refine bodyPost_ret (v := .tuple #[.agg #[.int .i64 0, .int .i64 0, .int .i64 0, .slice none 0 0, .slice none 0 0, .int .i64 0, .slice none 0 0, .slice none 0 0, .slice none 0 0, .int .i64 0, .int .i64 0, .int .i64 0, .bool false], .slice none 0 0, .int .i64 2]) (by simp [results, Try.results16, go_sem, z0, z1, z2, z3, z4, z5, z6, z7, z8, z9, z10, z11, z12]) rfl ?_
    rw [unhide HU2]
    exact ⟨none, 0, none, 0, none, 0, none, 0, none, 0, .slice none 0 0, [], rfl, noO_zero _ _, Ns.nil _ _ _, rfl, fun q _ => nsT_nil q, unhide B0⟩
  have q1 : ¬ (65536 : Int) < (data.size : Int) := by omega
  have HU3 := hide (show npOut ok ⟨id, tm, vo, ro, cm, el, wt, up, lg, st, vs, nx, mt⟩ data = if ok && inB data.size 1 100 then prOut ⟨id, tm, vo, ro, cm, el, wt, up, lg, st, vs, nx, mt⟩ 1 data else (zeroNo, [], 1) by rw [unhide HU, if_neg hbig])
  have HIn := hide (within_any (data.size : Int) 1 100)
  have x0 := (unhide X0).cell 0 rfl
  have x1 := (unhide X0).cell 1 rfl
  have x2 := (unhide X0).cell 2 rfl
  have x3 := (unhide X0).cell 3 rfl
  have x4 := (unhide X0).cell 4 rfl
  have x5 := (unhide X0).cell 5 rfl
  have x6 := (unhide X0).cell 6 rfl
  have x7 := (unhide X0).cell 7 rfl
  have x8 := (unhide X0).cell 8 rfl
  have x9 := (unhide X0).cell 9 rfl
  have x10 := (unhide X0).cell 10 rfl
  have x11 := (unhide X0).cell 11 rfl
  have x12 := (unhide X0).cell 12 rfl
  clear HU
  go_enter Try.func16, Try.ntmps16
  go_wp2_with fail
  generalize (w.alloc (.cells #[.int .i64 id, .int .i64 tm, .int .i64 vo, .slice la lg.length lc, .slice sa st.length sc, .int .i64 ro, .slice va vs.length vc, .slice na nx.length nc, .slice ma mt.length mc, .int .i64 cm, .int .i64 el, .int .i64 wt, .bool up] 29)).alloc (.cells #[.int .i64 0, .int .i64 0, .int .i64 0, .slice none 0 0, .slice none 0 0, .int .i64 0, .slice none 0 0, .slice none 0 0, .slice none 0 0, .int .i64 0, .int .i64 0, .int .i64 0, .bool false] 29) = w0 at *
  refine (unhide HN w0 (unhide B0)).mono ?_
  rintro e w1 ⟨rfl, hb⟩
  have K1 := hide ((unhide B0).trans (hb.mono (unhide B0).size))
  have X1 := hide ((unhide X0).below hb)
  have R1 := hide ((unhide R0).below hb)
  have hrw : w.heap.size + 1 < w0.heap.size := (unhide R0).1
  have hs1 := hb.size
  clear hb x0 x1 x2 x3 x4 x5 x6 x7 x8 x9 x10 x11 x12 X0 B0 R0 HN
  cases ok
  · have HU2 := hide (show npOut false ⟨id, tm, vo, ro, cm, el, wt, up, lg, st, vs, nx, mt⟩ data = (zeroNo, [], 1) by rw [unhide HU3]; simp)
    have RX := unhide R1
    have r0 := RX.cell 0 rfl
    have r1 := RX.cell 1 rfl
    have r2 := RX.cell 2 rfl
    have r3 := RX.cell 3 rfl
    have r4 := RX.cell 4 rfl
    have r5 := RX.cell 5 rfl
    have r6 := RX.cell 6 rfl
    have r7 := RX.cell 7 rfl
    have r8 := RX.cell 8 rfl
    have r9 := RX.cell 9 rfl
    have r10 := RX.cell 10 rfl
    have r11 := RX.cell 11 rfl
    have r12 := RX.cell 12 rfl
    have f0 := RX.fro 0
    have f1 := RX.fro 1
    have f2 := RX.fro 2
    have f3 := RX.fro 3
    have f4 := RX.fro 4
    have f5 := RX.fro 5
    have f6 := RX.fro 6
    have f7 := RX.fro 7
    have f8 := RX.fro 8
    have f9 := RX.fro 9
    have f10 := RX.fro 10
    have f11 := RX.fro 11
    have f12 := RX.fro 12
    have HR9 := hide ((((((((((((((RX.set 0 (.int .i64 0) (by simp)).set 1 (.int .i64 0) (by simp)).set 2 (.int .i64 0) (by simp)).set 3 (.slice none 0 0) (by simp)).set 4 (.slice none 0 0) (by simp)).set 5 (.int .i64 0) (by simp)).set 6 (.slice none 0 0) (by simp)).set 7 (.slice none 0 0) (by simp)).set 8 (.slice none 0 0) (by simp)).set 9 (.int .i64 0) (by simp)).set 10 (.int .i64 0) (by simp)).set 11 (.int .i64 0) (by simp)).set 12 (.bool false) (by simp)))
    have T9 := ((((((((((((((Touch.refl (fun q => q = w.heap.size + 1) w1).setCell ⟨w.heap.size + 1, 0, none⟩ (.int .i64 0) (fun _ => rfl)).setCell ⟨w.heap.size + 1, 1, none⟩ (.int .i64 0) (fun _ => rfl)).setCell ⟨w.heap.size + 1, 2, none⟩ (.int .i64 0) (fun _ => rfl)).setCell ⟨w.heap.size + 1, 3, none⟩ (.slice none 0 0) (fun _ => rfl)).setCell ⟨w.heap.size + 1, 4, none⟩ (.slice none 0 0) (fun _ => rfl)).setCell ⟨w.heap.size + 1, 5, none⟩ (.int .i64 0) (fun _ => rfl)).setCell ⟨w.heap.size + 1, 6, none⟩ (.slice none 0 0) (fun _ => rfl)).setCell ⟨w.heap.size + 1, 7, none⟩ (.slice none 0 0) (fun _ => rfl)).setCell ⟨w.heap.size + 1, 8, none⟩ (.slice none 0 0) (fun _ => rfl)).setCell ⟨w.heap.size + 1, 9, none⟩ (.int .i64 0) (fun _ => rfl)).setCell ⟨w.heap.size + 1, 10, none⟩ (.int .i64 0) (fun _ => rfl)).setCell ⟨w.heap.size + 1, 11, none⟩ (.int .i64 0) (fun _ => rfl)).setCell ⟨w.heap.size + 1, 12, none⟩ (.bool false) (fun _ => rfl))
    have KW := unhide K1
    have K9 := hide (KW.trans (T9.below KW.size (fun k hk e => by omega)))
    have HT9 := hide T9
    clear RX T9 KW
    go_wp2_with fail
    have R9 := unhide HR9
    have z0 := R9.cell 0 rfl
    have z1 := R9.cell 1 rfl
    have z2 := R9.cell 2 rfl
    have z3 := R9.cell 3 rfl
    have z4 := R9.cell 4 rfl
    have z5 := R9.cell 5 rfl
    have z6 := R9.cell 6 rfl
    have z7 := R9.cell 7 rfl
    have z8 := R9.cell 8 rfl
    have z9 := R9.cell 9 rfl
    have z10 := R9.cell 10 rfl
    have z11 := R9.cell 11 rfl
    have z12 := R9.cell 12 rfl
    refine bodyPost_ret (v := .tuple #[.agg #[.int .i64 0, .int .i64 0, .int .i64 0, .slice none 0 0, .slice none 0 0, .int .i64 0, .slice none 0 0, .slice none 0 0, .slice none 0 0, .int .i64 0, .int .i64 0, .int .i64 0, .bool false], .slice none 0 0, .int .i64 1]) (by simp [results, Try.results16, go_sem, z0, z1, z2, z3, z4, z5, z6, z7, z8, z9, z10, z11, z12]) rfl ?_
    rw [unhide HU2]
    exact ⟨none, 0, none, 0, none, 0, none, 0, none, 0, .slice none 0 0, [], rfl, noO_zero _ _, Ns.nil _ _ _, rfl, fun q _ => nsT_nil q, unhide K9⟩
  have HU4 := hide (show npOut true ⟨id, tm, vo, ro, cm, el, wt, up, lg, st, vs, nx, mt⟩ data = if inB data.size 1 100 then prOut ⟨id, tm, vo, ro, cm, el, wt, up, lg, st, vs, nx, mt⟩ 1 data else (zeroNo, [], 1) by rw [unhide HU3]; simp)
  clear HU3
  have HIn1 := hide (unhide HIn w1)
  go_wp2_with fail
  refine (unhide HIn1).mono ?_
  generalize inB (data.size : Int) 1 100 = bo at *
  rintro e w' ⟨rfl, hw'⟩
  have hw2 := hw'.symm
  clear hw' HIn1 HIn
  subst hw2
  cases bo
  · have HU2 := hide (show npOut true ⟨id, tm, vo, ro, cm, el, wt, up, lg, st, vs, nx, mt⟩ data = (zeroNo, [], 1) by rw [unhide HU4]; simp)
    have RX := unhide R1
    have r0 := RX.cell 0 rfl
    have r1 := RX.cell 1 rfl
    have r2 := RX.cell 2 rfl
    have r3 := RX.cell 3 rfl
    have r4 := RX.cell 4 rfl
    have r5 := RX.cell 5 rfl
    have r6 := RX.cell 6 rfl
    have r7 := RX.cell 7 rfl
    have r8 := RX.cell 8 rfl
    have r9 := RX.cell 9 rfl
    have r10 := RX.cell 10 rfl
    have r11 := RX.cell 11 rfl
    have r12 := RX.cell 12 rfl
    have f0 := RX.fro 0
    have f1 := RX.fro 1
    have f2 := RX.fro 2
    have f3 := RX.fro 3
    have f4 := RX.fro 4
    have f5 := RX.fro 5
    have f6 := RX.fro 6
    have f7 := RX.fro 7
    have f8 := RX.fro 8
    have f9 := RX.fro 9
    have f10 := RX.fro 10
    have f11 := RX.fro 11
    have f12 := RX.fro 12
    have HR9 := hide ((((((((((((((RX.set 0 (.int .i64 0) (by simp)).set 1 (.int .i64 0) (by simp)).set 2 (.int .i64 0) (by simp)).set 3 (.slice none 0 0) (by simp)).set 4 (.slice none 0 0) (by simp)).set 5 (.int .i64 0) (by simp)).set 6 (.slice none 0 0) (by simp)).set 7 (.slice none 0 0) (by simp)).set 8 (.slice none 0 0) (by simp)).set 9 (.int .i64 0) (by simp)).set 10 (.int .i64 0) (by simp)).set 11 (.int .i64 0) (by simp)).set 12 (.bool false) (by simp)))
    have T9 := ((((((((((((((Touch.refl (fun q => q = w.heap.size + 1) w1).setCell ⟨w.heap.size + 1, 0, none⟩ (.int .i64 0) (fun _ => rfl)).setCell ⟨w.heap.size + 1, 1, none⟩ (.int .i64 0) (fun _ => rfl)).setCell ⟨w.heap.size + 1, 2, none⟩ (.int .i64 0) (fun _ => rfl)).setCell ⟨w.heap.size + 1, 3, none⟩ (.slice none 0 0) (fun _ => rfl)).setCell ⟨w.heap.size + 1, 4, none⟩ (.slice none 0 0) (fun _ => rfl)).setCell ⟨w.heap.size + 1, 5, none⟩ (.int .i64 0) (fun _ => rfl)).setCell ⟨w.heap.size + 1, 6, none⟩ (.slice none 0 0) (fun _ => rfl)).setCell ⟨w.heap.size + 1, 7, none⟩ (.slice none 0 0) (fun _ => rfl)).setCell ⟨w.heap.size + 1, 8, none⟩ (.slice none 0 0) (fun _ => rfl)).setCell ⟨w.heap.size + 1, 9, none⟩ (.int .i64 0) (fun _ => rfl)).setCell ⟨w.heap.size + 1, 10, none⟩ (.int .i64 0) (fun _ => rfl)).setCell ⟨w.heap.size + 1, 11, none⟩ (.int .i64 0) (fun _ => rfl)).setCell ⟨w.heap.size + 1, 12, none⟩ (.bool false) (fun _ => rfl))
    have KW := unhide K1
    have K9 := hide (KW.trans (T9.below KW.size (fun k hk e => by omega)))
    have HT9 := hide T9
    clear RX T9 KW
    go_wp2_with fail
    have R9 := unhide HR9
    have z0 := R9.cell 0 rfl
    have z1 := R9.cell 1 rfl
    have z2 := R9.cell 2 rfl
    have z3 := R9.cell 3 rfl
    have z4 := R9.cell 4 rfl
    have z5 := R9.cell 5 rfl
    have z6 := R9.cell 6 rfl
    have z7 := R9.cell 7 rfl
    have z8 := R9.cell 8 rfl
    have z9 := R9.cell 9 rfl
    have z10 := R9.cell 10 rfl
    have z11 := R9.cell 11 rfl
    have z12 := R9.cell 12 rfl
    refine bodyPost_ret (v := .tuple #[.agg #[.int .i64 0, .int .i64 0, .int .i64 0, .slice none 0 0, .slice none 0 0, .int .i64 0, .slice none 0 0, .slice none 0 0, .slice none 0 0, .int .i64 0, .int .i64 0, .int .i64 0, .bool false], .slice none 0 0, .int .i64 1]) (by simp [results, Try.results16, go_sem, z0, z1, z2, z3, z4, z5, z6, z7, z8, z9, z10, z11, z12]) rfl ?_
    rw [unhide HU2]
    exact ⟨none, 0, none, 0, none, 0, none, 0, none, 0, .slice none 0 0, [], rfl, noO_zero _ _, Ns.nil _ _ _, rfl, fun q _ => nsT_nil q, unhide K9⟩
  have HU5 := hide (show npOut true ⟨id, tm, vo, ro, cm, el, wt, up, lg, st, vs, nx, mt⟩ data = prOut ⟨id, tm, vo, ro, cm, el, wt, up, lg, st, vs, nx, mt⟩ 1 data by rw [unhide HU4]; simp)
  clear HU4
  have x0 := (unhide X1).cell 0 rfl
  have x1 := (unhide X1).cell 1 rfl
  have x2 := (unhide X1).cell 2 rfl
  have x3 := (unhide X1).cell 3 rfl
  have x4 := (unhide X1).cell 4 rfl
  have x5 := (unhide X1).cell 5 rfl
  have x6 := (unhide X1).cell 6 rfl
  have x7 := (unhide X1).cell 7 rfl
  have x8 := (unhide X1).cell 8 rfl
  have x9 := (unhide X1).cell 9 rfl
  have x10 := (unhide X1).cell 10 rfl
  have x11 := (unhide X1).cell 11 rfl
  have x12 := (unhide X1).cell 12 rfl
  have hk1 := (unhide K1).size
  cases up
  · have HC := hide (unhide HCp w1 (unhide K1) (by first | trivial | rfl))
    have HU2 := hide (show npOut true ⟨id, tm, vo, ro, cm, el, wt, false, lg, st, vs, nx, mt⟩ data = (⟨id, tm, vo, ro, cm, el, wt, false, lg, st, vs, nx, mt⟩, [], 5) by rw [unhide HU5]; rfl)
    go_wp2_with fail
    refine (unhide HC).mono ?_
    rintro e w2 ⟨la2, lc2, sa2, sc2, va2, vc2, na2, nc2, ma2, mc2, rfl, hO, hb⟩
    clear x0 x1 x2 x3 x4 x5 x6 x7 x8 x9 x10 x11 x12 HC
    have HO := hide hO
    have RX := (unhide R1).below hb
    have r0 := RX.cell 0 rfl
    have r1 := RX.cell 1 rfl
    have r2 := RX.cell 2 rfl
    have r3 := RX.cell 3 rfl
    have r4 := RX.cell 4 rfl
    have r5 := RX.cell 5 rfl
    have r6 := RX.cell 6 rfl
    have r7 := RX.cell 7 rfl
    have r8 := RX.cell 8 rfl
    have r9 := RX.cell 9 rfl
    have r10 := RX.cell 10 rfl
    have r11 := RX.cell 11 rfl
    have r12 := RX.cell 12 rfl
    have f0 := RX.fro 0
    have f1 := RX.fro 1
    have f2 := RX.fro 2
    have f3 := RX.fro 3
    have f4 := RX.fro 4
    have f5 := RX.fro 5
    have f6 := RX.fro 6
    have f7 := RX.fro 7
    have f8 := RX.fro 8
    have f9 := RX.fro 9
    have f10 := RX.fro 10
    have f11 := RX.fro 11
    have f12 := RX.fro 12
    have HR9 := hide ((((((((((((((RX.set 0 (.int .i64 id) (by simp)).set 1 (.int .i64 tm) (by simp)).set 2 (.int .i64 vo) (by simp)).set 3 (.slice la2 lg.length lc2) (by simp)).set 4 (.slice sa2 st.length sc2) (by simp)).set 5 (.int .i64 ro) (by simp)).set 6 (.slice va2 vs.length vc2) (by simp)).set 7 (.slice na2 nx.length nc2) (by simp)).set 8 (.slice ma2 mt.length mc2) (by simp)).set 9 (.int .i64 cm) (by simp)).set 10 (.int .i64 el) (by simp)).set 11 (.int .i64 wt) (by simp)).set 12 (.bool false) (by simp)))
    have T9 := ((((((((((((((Touch.refl (fun q => q = w.heap.size + 1) w2).setCell ⟨w.heap.size + 1, 0, none⟩ (.int .i64 id) (fun _ => rfl)).setCell ⟨w.heap.size + 1, 1, none⟩ (.int .i64 tm) (fun _ => rfl)).setCell ⟨w.heap.size + 1, 2, none⟩ (.int .i64 vo) (fun _ => rfl)).setCell ⟨w.heap.size + 1, 3, none⟩ (.slice la2 lg.length lc2) (fun _ => rfl)).setCell ⟨w.heap.size + 1, 4, none⟩ (.slice sa2 st.length sc2) (fun _ => rfl)).setCell ⟨w.heap.size + 1, 5, none⟩ (.int .i64 ro) (fun _ => rfl)).setCell ⟨w.heap.size + 1, 6, none⟩ (.slice va2 vs.length vc2) (fun _ => rfl)).setCell ⟨w.heap.size + 1, 7, none⟩ (.slice na2 nx.length nc2) (fun _ => rfl)).setCell ⟨w.heap.size + 1, 8, none⟩ (.slice ma2 mt.length mc2) (fun _ => rfl)).setCell ⟨w.heap.size + 1, 9, none⟩ (.int .i64 cm) (fun _ => rfl)).setCell ⟨w.heap.size + 1, 10, none⟩ (.int .i64 el) (fun _ => rfl)).setCell ⟨w.heap.size + 1, 11, none⟩ (.int .i64 wt) (fun _ => rfl)).setCell ⟨w.heap.size + 1, 12, none⟩ (.bool false) (fun _ => rfl))
    have KW := (unhide K1).trans (hb.mono (unhide K1).size)
    have K9 := hide (KW.trans (T9.below KW.size (fun k hk e => by omega)))
    have HT9 := hide T9
    clear RX T9 KW
    clear hb hO
    go_wp2_with fail
    have R9 := unhide HR9
    have z0 := R9.cell 0 rfl
    have z1 := R9.cell 1 rfl
    have z2 := R9.cell 2 rfl
    have z3 := R9.cell 3 rfl
    have z4 := R9.cell 4 rfl
    have z5 := R9.cell 5 rfl
    have z6 := R9.cell 6 rfl
    have z7 := R9.cell 7 rfl
    have z8 := R9.cell 8 rfl
    have z9 := R9.cell 9 rfl
    have z10 := R9.cell 10 rfl
    have z11 := R9.cell 11 rfl
    have z12 := R9.cell 12 rfl
    refine bodyPost_ret (v := .tuple #[.agg #[.int .i64 id, .int .i64 tm, .int .i64 vo, .slice la2 lg.length lc2, .slice sa2 st.length sc2, .int .i64 ro, .slice va2 vs.length vc2, .slice na2 nx.length nc2, .slice ma2 mt.length mc2, .int .i64 cm, .int .i64 el, .int .i64 wt, .bool false], .slice none 0 0, .int .i64 5]) (by simp [results, Try.results16, go_sem, z0, z1, z2, z3, z4, z5, z6, z7, z8, z9, z10, z11, z12]) rfl ?_
    rw [unhide HU2]
    exact ⟨la2, lc2, sa2, sc2, va2, vc2, na2, nc2, ma2, mc2, .slice none 0 0, [], rfl, NoO.mono ((unhide HO).kept (unhide HT9) (fun k e _ => by omega)) (by omega), Ns.nil _ _ _, rfl, fun q _ => nsT_nil q, unhide K9⟩
  have HC := hide (unhide HNA w1 (unhide K1) (by first | trivial | rfl))
  go_wp2_with fail
  refine (unhide HC).mono ?_
  rintro e w2 ⟨b, la2, lc2, sa2, sc2, va2, vc2, na2, nc2, ma2, mc2, rfl, hA, hb⟩
  have hs2 := hb.size
  have hlo := hA.lo
  have HP2 := hide (unhide HPr w2 w1.heap.size b la2 lc2 sa2 sc2 va2 vc2 na2 nc2 ma2 mc2 (by first | trivial | rfl) (by first | trivial | rfl) hA hb.size)
  have K2 := hide ((unhide K1).trans (hb.mono (unhide K1).size))
  have R2 := hide ((unhide R1).below hb)
  rw [← unhide HU5] at HP2
  clear x0 x1 x2 x3 x4 x5 x6 x7 x8 x9 x10 x11 x12 HC hA hb HU5 HPr HNA HCp R1 K1 X1
  generalize hout : npOut true ⟨id, tm, vo, ro, cm, el, wt, true, lg, st, vs, nx, mt⟩ data = out at *
  obtain ⟨n, ms, code⟩ := out
  have HOUT := hide hout
  clear hout
  dsimp only at HP2 ⊢
  go_wp2_with fail
  refine (unhide HP2).mono ?_
  rintro e w3 ⟨la, lc, sa, sc, va, vc, na, nc, ma, mc, v, l, rfl, hX, hO, hNs, hms, hap, hap2, hT⟩
  have hs3 := hT.size
  have R3 := hide ((unhide R2).kept hT (fun e => by omega))
  have K3 := hide ((unhide K2).trans (hT.below (unhide K2).size (fun k hk e => by omega)))
  have HX3 := hide hX
  have HQ := hide (And.intro hO (And.intro hNs (And.intro hms hap)))
  clear hX hO hNs hms hap hap2 hT HP2 R2 K2
  have hb3 : b < w3.heap.size := (unhide HX3).1
  have x0 := (unhide HX3).cell 0 rfl
  have x1 := (unhide HX3).cell 1 rfl
  have x2 := (unhide HX3).cell 2 rfl
  have x3 := (unhide HX3).cell 3 rfl
  have x4 := (unhide HX3).cell 4 rfl
  have x5 := (unhide HX3).cell 5 rfl
  have x6 := (unhide HX3).cell 6 rfl
  have x7 := (unhide HX3).cell 7 rfl
  have x8 := (unhide HX3).cell 8 rfl
  have x9 := (unhide HX3).cell 9 rfl
  have x10 := (unhide HX3).cell 10 rfl
  have x11 := (unhide HX3).cell 11 rfl
  have x12 := (unhide HX3).cell 12 rfl
  have x13 := (unhide HX3).cell 13 rfl
  go_wp2_with fail
  have R4 := hide ((unhide R3).drewN 1)
  have K4 := hide (below_drewN (unhide K3) 1)
  have X4 := hide ((unhide HX3).drewN 1)
  have O4 := hide ((unhide HQ).1.drewN 1)
  have N4 := hide ((unhide HQ).2.1.kept (T := fun _ => False) ((Touch.refl (fun _ => False) w3).drewN 1) (fun _ e => e.elim))
  change Hid (Blk w3.drew (w.heap.size + 1) _) at R4
  change Hid (Below w.heap.size w w3.drew) at K4
  change Hid (Blk w3.drew b _) at X4
  change Hid (NoO _ w3.drew _ _ _ _ _ _ _ _ _ _) at O4
  change Hid (Ns mgS _ w3.drew _ _ _) at N4
  refine wp_region_noPanic ?_
  refine wp_region_held_drew (S := (fun wx => wx.cell? ⟨b, 0, none⟩ = some (.int .i64 n.id) ∧ wx.cell? ⟨b, 1, none⟩ = some (.int .i64 n.tm) ∧ wx.cell? ⟨b, 2, none⟩ = some (.int .i64 n.vo) ∧ wx.cell? ⟨b, 3, none⟩ = some (.slice la n.lg.length lc) ∧ wx.cell? ⟨b, 4, none⟩ = some (.slice sa n.st.length sc) ∧ wx.cell? ⟨b, 5, none⟩ = some (.int .i64 n.ro) ∧ wx.cell? ⟨b, 6, none⟩ = some (.slice va n.vs.length vc) ∧ wx.cell? ⟨b, 7, none⟩ = some (.slice na n.nx.length nc) ∧ wx.cell? ⟨b, 8, none⟩ = some (.slice ma n.mt.length mc) ∧ wx.cell? ⟨b, 9, none⟩ = some (.int .i64 n.cm) ∧ wx.cell? ⟨b, 10, none⟩ = some (.int .i64 n.el) ∧ wx.cell? ⟨b, 11, none⟩ = some (.int .i64 n.wt) ∧ wx.cell? ⟨b, 12, none⟩ = some (.bool n.up) ∧ wx.cell? ⟨b, 13, none⟩ = some (v))) (by kernel_rfl) ?_ (fun hHeld => ?_)
  · exact ⟨x0, x1, x2, x3, x4, x5, x6, x7, x8, x9, x10, x11, x12, x13⟩
  refine wpAnyH_take (i := 0) (oi := _) (v := ?_) rfl (by kernel_rfl) (by kernel_rfl) (by kernel_rfl) (fun _ _ _ h => h) (Or.inl ⟨by rfl, ?_⟩) (by assumption) ?_
  rotate_left 1
  · (intro wq hSw; (try dsimp only at hSw); (try simp only [List.getElem_toArray, List.getElem_cons_succ, List.getElem_cons_zero]); go_simp; try with_reducible rfl)
  (try simp only [Act.put, List.getElem_toArray, List.getElem_cons_succ, List.getElem_cons_zero, List.setIfInBounds_toArray, List.set_cons_zero, List.set_cons_succ])
  refine wpAnyH_take (i := 1) (oi := _) (v := ?_) rfl (by kernel_rfl) (by kernel_rfl) (by kernel_rfl) (fun _ _ _ h => h) (Or.inl ⟨by rfl, ?_⟩) (by assumption) ?_
  rotate_left 1
  · (intro wq hSw; (try dsimp only at hSw); (try simp only [List.getElem_toArray, List.getElem_cons_succ, List.getElem_cons_zero]); go_simp; try with_reducible rfl)
  (try simp only [Act.put, List.getElem_toArray, List.getElem_cons_succ, List.getElem_cons_zero, List.setIfInBounds_toArray, List.set_cons_zero, List.set_cons_succ])
  refine wpAnyH_take (i := 2) (oi := _) (v := ?_) rfl (by kernel_rfl) (by kernel_rfl) (by kernel_rfl) (fun _ _ _ h => h) (Or.inl ⟨by rfl, ?_⟩) (by assumption) ?_
  rotate_left 1
  · (intro wq hSw; (try dsimp only at hSw); (try simp only [List.getElem_toArray, List.getElem_cons_succ, List.getElem_cons_zero]); go_simp; try with_reducible rfl)
  (try simp only [Act.put, List.getElem_toArray, List.getElem_cons_succ, List.getElem_cons_zero, List.setIfInBounds_toArray, List.set_cons_zero, List.set_cons_succ])
  refine wpAnyH_take (i := 3) (oi := _) (v := ?_) rfl (by kernel_rfl) (by kernel_rfl) (by kernel_rfl) (fun _ _ _ h => h) (Or.inl ⟨by rfl, ?_⟩) (by assumption) ?_
  rotate_left 1
  · (intro wq hSw; (try dsimp only at hSw); (try simp only [List.getElem_toArray, List.getElem_cons_succ, List.getElem_cons_zero]); go_simp; try with_reducible rfl)
  (try simp only [Act.put, List.getElem_toArray, List.getElem_cons_succ, List.getElem_cons_zero, List.setIfInBounds_toArray, List.set_cons_zero, List.set_cons_succ])
  refine wpAnyH_take (i := 4) (oi := _) (v := ?_) rfl (by kernel_rfl) (by kernel_rfl) (by kernel_rfl) (fun _ _ _ h => h) (Or.inl ⟨by rfl, ?_⟩) (by assumption) ?_
  rotate_left 1
  · (intro wq hSw; (try dsimp only at hSw); (try simp only [List.getElem_toArray, List.getElem_cons_succ, List.getElem_cons_zero]); go_simp; try with_reducible rfl)
  (try simp only [Act.put, List.getElem_toArray, List.getElem_cons_succ, List.getElem_cons_zero, List.setIfInBounds_toArray, List.set_cons_zero, List.set_cons_succ])
  refine wpAnyH_take (i := 5) (oi := _) (v := ?_) rfl (by kernel_rfl) (by kernel_rfl) (by kernel_rfl) (fun _ _ _ h => h) (Or.inl ⟨by rfl, ?_⟩) (by assumption) ?_
  rotate_left 1
  · (intro wq hSw; (try dsimp only at hSw); (try simp only [List.getElem_toArray, List.getElem_cons_succ, List.getElem_cons_zero]); go_simp; try with_reducible rfl)
  (try simp only [Act.put, List.getElem_toArray, List.getElem_cons_succ, List.getElem_cons_zero, List.setIfInBounds_toArray, List.set_cons_zero, List.set_cons_succ])
  refine wpAnyH_take (i := 6) (oi := _) (v := ?_) rfl (by kernel_rfl) (by kernel_rfl) (by kernel_rfl) (fun _ _ _ h => h) (Or.inl ⟨by rfl, ?_⟩) (by assumption) ?_
  rotate_left 1
  · (intro wq hSw; (try dsimp only at hSw); (try simp only [List.getElem_toArray, List.getElem_cons_succ, List.getElem_cons_zero]); go_simp; try with_reducible rfl)
  (try simp only [Act.put, List.getElem_toArray, List.getElem_cons_succ, List.getElem_cons_zero, List.setIfInBounds_toArray, List.set_cons_zero, List.set_cons_succ])
  refine wpAnyH_take (i := 7) (oi := _) (v := ?_) rfl (by kernel_rfl) (by kernel_rfl) (by kernel_rfl) (fun _ _ _ h => h) (Or.inl ⟨by rfl, ?_⟩) (by assumption) ?_
  rotate_left 1
  · (intro wq hSw; (try dsimp only at hSw); (try simp only [List.getElem_toArray, List.getElem_cons_succ, List.getElem_cons_zero]); go_simp; try with_reducible rfl)
  (try simp only [Act.put, List.getElem_toArray, List.getElem_cons_succ, List.getElem_cons_zero, List.setIfInBounds_toArray, List.set_cons_zero, List.set_cons_succ])
  refine wpAnyH_take (i := 8) (oi := _) (v := ?_) rfl (by kernel_rfl) (by kernel_rfl) (by kernel_rfl) (fun _ _ _ h => h) (Or.inl ⟨by rfl, ?_⟩) (by assumption) ?_
  rotate_left 1
  · (intro wq hSw; (try dsimp only at hSw); (try simp only [List.getElem_toArray, List.getElem_cons_succ, List.getElem_cons_zero]); go_simp; try with_reducible rfl)
  (try simp only [Act.put, List.getElem_toArray, List.getElem_cons_succ, List.getElem_cons_zero, List.setIfInBounds_toArray, List.set_cons_zero, List.set_cons_succ])
  clear x0 x1 x2 x3 x4 x5 x6 x7 x8 x9 x10 x11 x12 x13 R3 K3 HX3
  have HQ2 := hide (unhide HQ).2.2
  clear HQ
  generalize w3.drew = w4 at *
  have RX := unhide R4
  have r0 := RX.cell 0 rfl
  have r1 := RX.cell 1 rfl
  have r2 := RX.cell 2 rfl
  have r3 := RX.cell 3 rfl
  have r4 := RX.cell 4 rfl
  have r5 := RX.cell 5 rfl
  have r6 := RX.cell 6 rfl
  have r7 := RX.cell 7 rfl
  have r8 := RX.cell 8 rfl
  have r9 := RX.cell 9 rfl
  have r10 := RX.cell 10 rfl
  have r11 := RX.cell 11 rfl
  have r12 := RX.cell 12 rfl
  have f0 := RX.fro 0
  have f1 := RX.fro 1
  have f2 := RX.fro 2
  have f3 := RX.fro 3
  have f4 := RX.fro 4
  have f5 := RX.fro 5
  have f6 := RX.fro 6
  have f7 := RX.fro 7
  have f8 := RX.fro 8
  have f9 := RX.fro 9
  have f10 := RX.fro 10
  have f11 := RX.fro 11
  have f12 := RX.fro 12
  have HR9 := hide ((((((((((((((RX.set 0 (.int .i64 n.id) (by simp)).set 1 (.int .i64 n.tm) (by simp)).set 2 (.int .i64 n.vo) (by simp)).set 3 (.slice la n.lg.length lc) (by simp)).set 4 (.slice sa n.st.length sc) (by simp)).set 5 (.int .i64 n.ro) (by simp)).set 6 (.slice va n.vs.length vc) (by simp)).set 7 (.slice na n.nx.length nc) (by simp)).set 8 (.slice ma n.mt.length mc) (by simp)).set 9 (.int .i64 n.cm) (by simp)).set 10 (.int .i64 n.el) (by simp)).set 11 (.int .i64 n.wt) (by simp)).set 12 (.bool n.up) (by simp)))
  have T9 := ((((((((((((((Touch.refl (fun q => q = w.heap.size + 1) w4).setCell ⟨w.heap.size + 1, 0, none⟩ (.int .i64 n.id) (fun _ => rfl)).setCell ⟨w.heap.size + 1, 1, none⟩ (.int .i64 n.tm) (fun _ => rfl)).setCell ⟨w.heap.size + 1, 2, none⟩ (.int .i64 n.vo) (fun _ => rfl)).setCell ⟨w.heap.size + 1, 3, none⟩ (.slice la n.lg.length lc) (fun _ => rfl)).setCell ⟨w.heap.size + 1, 4, none⟩ (.slice sa n.st.length sc) (fun _ => rfl)).setCell ⟨w.heap.size + 1, 5, none⟩ (.int .i64 n.ro) (fun _ => rfl)).setCell ⟨w.heap.size + 1, 6, none⟩ (.slice va n.vs.length vc) (fun _ => rfl)).setCell ⟨w.heap.size + 1, 7, none⟩ (.slice na n.nx.length nc) (fun _ => rfl)).setCell ⟨w.heap.size + 1, 8, none⟩ (.slice ma n.mt.length mc) (fun _ => rfl)).setCell ⟨w.heap.size + 1, 9, none⟩ (.int .i64 n.cm) (fun _ => rfl)).setCell ⟨w.heap.size + 1, 10, none⟩ (.int .i64 n.el) (fun _ => rfl)).setCell ⟨w.heap.size + 1, 11, none⟩ (.int .i64 n.wt) (fun _ => rfl)).setCell ⟨w.heap.size + 1, 12, none⟩ (.bool n.up) (fun _ => rfl))
  have KW := unhide K4
  have K9 := hide (KW.trans (T9.below KW.size (fun k hk e => by omega)))
  have HT9 := hide T9
  clear RX T9 KW
  have X9 := hide ((unhide X4).kept (unhide HT9) (fun e => by omega))
  refine wpAnyH_ready (rs := [9]) (by kernel_rfl) (by simp) ?_
  refine AllReadyH.cons (o := _) rfl (fun K hK => ?_) AllReadyH.nil
  go_simp
  refine hK.out _ _ ?_ (fun hHeld => ?_)
  · exact ⟨(unhide X9).cell 0 rfl, (unhide X9).cell 1 rfl, (unhide X9).cell 2 rfl, (unhide X9).cell 3 rfl, (unhide X9).cell 4 rfl, (unhide X9).cell 5 rfl, (unhide X9).cell 6 rfl, (unhide X9).cell 7 rfl, (unhide X9).cell 8 rfl, (unhide X9).cell 9 rfl, (unhide X9).cell 10 rfl, (unhide X9).cell 11 rfl, (unhide X9).cell 12 rfl, (unhide X9).cell 13 rfl⟩
  clear hK K
  (try simp only [Act.put, List.getElem_toArray, List.getElem_cons_succ, List.getElem_cons_zero, List.setIfInBounds_toArray, List.set_cons_zero, List.set_cons_succ])
  refine wpAnyH_take (i := 10) (oi := _) (v := ?_) rfl (by kernel_rfl) (by kernel_rfl) (by kernel_rfl) (fun _ _ _ h => h) (Or.inl ⟨by rfl, ?_⟩) (by assumption) ?_
  rotate_left 1
  · (intro wq hSw; (try dsimp only at hSw); (try simp only [List.getElem_toArray, List.getElem_cons_succ, List.getElem_cons_zero]); go_simp; try with_reducible rfl)
  (try simp only [Act.put, List.getElem_toArray, List.getElem_cons_succ, List.getElem_cons_zero, List.setIfInBounds_toArray, List.set_cons_zero, List.set_cons_succ])
  refine wpAnyH_take (i := 11) (oi := _) (v := ?_) rfl (by kernel_rfl) (by kernel_rfl) (by kernel_rfl) (fun _ _ _ h => h) (Or.inl ⟨by rfl, ?_⟩) (by assumption) ?_
  rotate_left 1
  · (intro wq hSw; (try dsimp only at hSw); (try simp only [List.getElem_toArray, List.getElem_cons_succ, List.getElem_cons_zero]); go_simp; try with_reducible rfl)
  (try simp only [Act.put, List.getElem_toArray, List.getElem_cons_succ, List.getElem_cons_zero, List.setIfInBounds_toArray, List.set_cons_zero, List.set_cons_succ])
  refine wpAnyH_done (by kernel_rfl) (NoPanic.normal ?_) _
  go_wp2_with fail
  have R9 := unhide HR9
  have z0 := R9.cell 0 rfl
  have z1 := R9.cell 1 rfl
  have z2 := R9.cell 2 rfl
  have z3 := R9.cell 3 rfl
  have z4 := R9.cell 4 rfl
  have z5 := R9.cell 5 rfl
  have z6 := R9.cell 6 rfl
  have z7 := R9.cell 7 rfl
  have z8 := R9.cell 8 rfl
  have z9 := R9.cell 9 rfl
  have z10 := R9.cell 10 rfl
  have z11 := R9.cell 11 rfl
  have z12 := R9.cell 12 rfl
  refine bodyPost_ret (v := .tuple #[.agg #[.int .i64 n.id, .int .i64 n.tm, .int .i64 n.vo, .slice la n.lg.length lc, .slice sa n.st.length sc, .int .i64 n.ro, .slice va n.vs.length vc, .slice na n.nx.length nc, .slice ma n.mt.length mc, .int .i64 n.cm, .int .i64 n.el, .int .i64 n.wt, .bool n.up], v, .int .i64 code]) (by simp [results, Try.results16, go_sem, z0, z1, z2, z3, z4, z5, z6, z7, z8, z9, z10, z11, z12]) rfl ?_
  rw [unhide HOUT]
  exact ⟨la, lc, sa, sc, va, vc, na, nc, ma, mc, v, l, rfl, NoO.mono ((unhide O4).kept (unhide HT9) (fun k e _ => by omega)) (by omega), ((unhide N4).kept (unhide HT9) (fun k e _ => by omega)).down (by omega), (unhide HQ2).1, fun q hq => ((unhide HQ2).2 q hq).2, unhide K9⟩
end Go.Proofs.Ytglkgmijcefjkaa
namespace Go.Proofs.Ytglkgmijcefjkaa
open Go.ChangeShapes Go.WideShapes Go.ChangeAt Go.RowKit Go.Deep
set_option linter.unusedVariables false
set_option maxRecDepth 100000 in
set_option maxHeartbeats 4000000 in
theorem l10Own_any (id tm vo ro cm el wt : Int) (up : Bool) (lg : List En) (st vs nx mt : List Int) (la : Option Addr) (lc : Nat) (sa : Option Addr) (sc : Nat) (va : Option Addr) (vc : Nat) (na : Option Addr) (nc : Nat) (ma : Option Addr) (mc : Nat) (w : World) (h : NoR w (.slice la lg.length lc) (.slice sa st.length sc) (.slice va vs.length vc) (.slice na nx.length nc) (.slice ma mt.length mc) lg st vs nx mt) (z0 : lg.length ≤ 4096) (z1 : st.length ≤ 4096) (z2 : vs.length ≤ 4096) (z3 : nx.length ≤ 4096) (z4 : mt.length ≤ 4096) :
    Calls Try.prog 21 #[.agg #[.int .i64 id, .int .i64 tm, .int .i64 vo, .slice la lg.length lc, .slice sa st.length sc, .int .i64 ro, .slice va vs.length vc, .slice na nx.length nc, .slice ma mt.length mc, .int .i64 cm, .int .i64 el, .int .i64 wt, .bool up]] w fun e w' => CpNR id tm vo ro cm el wt up lg st vs nx mt w.heap.size w e w' := by
  obtain ⟨i0, hi, hz0, hz1, hz2⟩ := info_parts infoEn
  obtain ⟨j0, hj, hy0, hy1, hy2⟩ := info_parts info3
  have HR_ := hide h
  have hlen := ensC_len lg
  have HB := hide (((Below.refl w.heap.size w).alloc (Nat.le_refl _) (.cells #[.int .i64 id, .int .i64 tm, .int .i64 vo, .slice la lg.length lc, .slice sa st.length sc, .int .i64 ro, .slice va vs.length vc, .slice na nx.length nc, .slice ma mt.length mc, .int .i64 cm, .int .i64 el, .int .i64 wt, .bool up] 29)).alloc (by simp) (.cells #[.int .i64 0, .int .i64 0, .int .i64 0, .slice none 0 0, .slice none 0 0, .int .i64 0, .slice none 0 0, .slice none 0 0, .slice none 0 0, .int .i64 0, .int .i64 0, .int .i64 0, .bool false] 29))
  have HO := hide ((Blk.new w #[.int .i64 id, .int .i64 tm, .int .i64 vo, .slice la lg.length lc, .slice sa st.length sc, .int .i64 ro, .slice va vs.length vc, .slice na nx.length nc, .slice ma mt.length mc, .int .i64 cm, .int .i64 el, .int .i64 wt, .bool up] 29 w.heap.size rfl).alloc (.cells #[.int .i64 0, .int .i64 0, .int .i64 0, .slice none 0 0, .slice none 0 0, .int .i64 0, .slice none 0 0, .slice none 0 0, .slice none 0 0, .int .i64 0, .int .i64 0, .int .i64 0, .bool false] 29))
  have HR := hide (Blk.new (w.alloc (.cells #[.int .i64 id, .int .i64 tm, .int .i64 vo, .slice la lg.length lc, .slice sa st.length sc, .int .i64 ro, .slice va vs.length vc, .slice na nx.length nc, .slice ma mt.length mc, .int .i64 cm, .int .i64 el, .int .i64 wt, .bool up] 29)) #[.int .i64 0, .int .i64 0, .int .i64 0, .slice none 0 0, .slice none 0 0, .int .i64 0, .slice none 0 0, .slice none 0 0, .slice none 0 0, .int .i64 0, .int .i64 0, .int .i64 0, .bool false] 29 (w.heap.size + 1) (by simp))
  have HZ := hide (show w.heap.size + 2 ≤ ((w.alloc (.cells #[.int .i64 id, .int .i64 tm, .int .i64 vo, .slice la lg.length lc, .slice sa st.length sc, .int .i64 ro, .slice va vs.length vc, .slice na nx.length nc, .slice ma mt.length mc, .int .i64 cm, .int .i64 el, .int .i64 wt, .bool up] 29)).alloc (.cells #[.int .i64 0, .int .i64 0, .int .i64 0, .slice none 0 0, .slice none 0 0, .int .i64 0, .slice none 0 0, .slice none 0 0, .slice none 0 0, .int .i64 0, .int .i64 0, .int .i64 0, .bool false] 29)).heap.size by simp)
  clear h
  go_enter Try.func21, Try.ntmps21
  go_upto_region 1 with (fail)
  generalize (w.alloc (.cells #[.int .i64 id, .int .i64 tm, .int .i64 vo, .slice la lg.length lc, .slice sa st.length sc, .int .i64 ro, .slice va vs.length vc, .slice na nx.length nc, .slice ma mt.length mc, .int .i64 cm, .int .i64 el, .int .i64 wt, .bool up] 29)).alloc (.cells #[.int .i64 0, .int .i64 0, .int .i64 0, .slice none 0 0, .slice none 0 0, .int .i64 0, .slice none 0 0, .slice none 0 0, .slice none 0 0, .int .i64 0, .int .i64 0, .int .i64 0, .bool false] 29) = w0 at *
  have hz := unhide HZ
  have hkb := (unhide HB).size
  have OO1 := (unhide HO).alloc (.cells #[] 63)
  have oc1 := OO1.cell 3 rfl
  have HK1 := hide ((unhide HB).alloc hkb (.cells #[] 63))
  have HE := hide (own_noneE w0 w.heap.size w0.heap.size rfl hkb)
  have HRW := hide ((unhide HR_).below (unhide HK1)).lg.rw
  have HOO := hide OO1
  have hbase := (unhide HK1).size
  have HZW := hide hz
  clear OO1 hz hkb
  go_upto_region 2 with (at_builtin; refine wpList_append_row _ rfl _ _ _ rfl w.heap.size 63 i0 _ 3 32 Try.underlying27 hi hz0 hz1 hz2 rfl (by omega) (.slice (some ⟨w0.heap.size, 0, none⟩) 0 0) 0 [] rfl (unhide HE) (.slice la lg.length lc) lg.length (ensC lg) rfl (unhide HRW) hlen (ensC_one lg) (by unfold maxLen; omega) (by omega) hbase ?_; intro la' lc' w1 hown hgrow hat; rw [Nat.zero_add] at hown hat ⊢; have TT := (Touch.refl (fun q => q = w0.heap.size) (w0.alloc (.cells #[] 63))).grown hgrow (fun q e _ => by simp [Value.ownBlock] at e; exact e.symm); have O4 := (unhide HOO).kept TT (fun e => by have := unhide HZW; omega); have oc := O4.cell 3 rfl; have fc := O4.fro 3; have HA := hide (And.intro hown (And.intro hgrow (And.intro hat (And.intro TT O4)))); clear hown hgrow hat TT O4)
  obtain ⟨hown, hgrow, hat, TT, O4⟩ := unhide HA
  have hz := unhide HZW
  have hO : OwnE w.heap.size w1 (.slice la' lg.length lc') lg := by simpa [OwnE] using hown
  have hlt : ∀ q, (Value.slice la' lg.length lc').ownBlock = some q → w0.heap.size ≤ q ∧ q < w1.heap.size := fun q hq => by
    refine ⟨?_, (World.ownsRow.lt hO q hq).2⟩
    rcases hat with e | e
    · rw [hq] at e; simp [Value.ownBlock] at e; omega
    · rw [hq] at e; simp at e; omega
  have O5 := O4.set 3 (.slice la' lg.length lc') (by simp)
  have R5 := (((unhide HR).alloc (.cells #[] 63)).kept TT (fun e => by omega)).other (C := w.heap.size) 3 (.slice la' lg.length lc') (by omega)
  have B5 := ((unhide HK1).grown hgrow (unhide HK1).size (fun q e => by simp [Value.ownBlock] at e; omega)).setCell (p := ⟨w.heap.size, 3, none⟩) (Nat.le_refl _) (.slice la' lg.length lc')
  have T5 := (Touch.refl (fun q => q = w.heap.size) w1).setCell ⟨w.heap.size, 3, none⟩ (.slice la' lg.length lc') (fun _ => rfl)
  have TF := (Touch.refl (fun _ => False) w0).alloc (.cells #[] 63)
  have hbs : w0.heap.size ≤ w1.heap.size := by have := TT.size; simp at this; omega
  have Ul := hO.kept T5 (fun q hq e => by have := (hlt q hq).1; omega)
  have Il := hide (show (∀ q, (Value.slice la' lg.length lc').ownBlock = some q → w0.heap.size ≤ q ∧ q < w1.heap.size) ∧ w.heap.size + 1 < w0.heap.size from ⟨hlt, by omega⟩)
  have hsz : (w1.setCell ⟨w.heap.size, 3, none⟩ (.slice la' lg.length lc')).heap.size = w1.heap.size := by simp
  have Z5 := hide (show w.heap.size + 2 ≤ (w1.setCell ⟨w.heap.size, 3, none⟩ (.slice la' lg.length lc')).heap.size by rw [hsz]; omega)
  have Jl := hide (show w1.heap.size ≤ (w1.setCell ⟨w.heap.size, 3, none⟩ (.slice la' lg.length lc')).heap.size by rw [hsz]; exact Nat.le_refl _)
  have HO5 := hide O5
  have HR5 := hide R5
  have HB5 := hide B5
  have Nl := hide Ul
  clear O5 R5 B5 T5 TF hO hlt hz hsz hbs hown hgrow hat TT O4 HO HR HB HZ HZW oc fc oc1 HA HOO HRW HE HK1 hbase Ul 
  generalize (w1.setCell ⟨w.heap.size, 3, none⟩ (.slice la' lg.length lc')) = u1 at *
  have HO := hide (unhide HO5)
  clear HO5
  have HR := hide (unhide HR5)
  clear HR5
  have HB := hide (unhide HB5)
  clear HB5
  have HZ := hide (unhide Z5)
  clear Z5
  have Ml := hide (unhide Nl)
  clear Nl
  have Els := hide (unhide Jl)
  have hz := unhide HZ
  have hkb := (unhide HB).size
  have OO1 := (unhide HO).alloc (.cells #[] 3)
  have oc1 := OO1.cell 4 rfl
  have HK1 := hide ((unhide HB).alloc hkb (.cells #[] 3))
  have HE := hide (own_noneJ u1 w.heap.size u1.heap.size rfl hkb)
  have HRW := hide ((unhide HR_).below (unhide HK1)).st.rw
  have HOO := hide OO1
  have hbase := (unhide HK1).size
  have HZW := hide hz
  clear OO1 hz hkb
  go_upto_region 3 with (at_builtin; refine wpList_append_row _ rfl _ _ _ rfl w.heap.size 3 j0 _ 1 8 Try.underlying23 hj hy0 hy1 hy2 rfl (by omega) (.slice (some ⟨u1.heap.size, 0, none⟩) 0 0) 0 [] rfl (unhide HE) (.slice sa st.length sc) st.length (st.map (Value.int .i64)) rfl (unhide HRW) (by simp) (by intro u hu; simp only [List.mem_map] at hu; obtain ⟨s, _, rfl⟩ := hu; rfl) (by unfold maxLen; omega) (by omega) hbase ?_; intro sa' sc' w2 hown hgrow hat; rw [Nat.zero_add] at hown hat ⊢; have TT := (Touch.refl (fun q => q = u1.heap.size) (u1.alloc (.cells #[] 3))).grown hgrow (fun q e _ => by simp [Value.ownBlock] at e; exact e.symm); have O4 := (unhide HOO).kept TT (fun e => by have := unhide HZW; omega); have oc := O4.cell 4 rfl; have fc := O4.fro 4; have HA := hide (And.intro hown (And.intro hgrow (And.intro hat (And.intro TT O4)))); clear hown hgrow hat TT O4)
  obtain ⟨hown, hgrow, hat, TT, O4⟩ := unhide HA
  have hz := unhide HZW
  have hO : OwnI w.heap.size w2 (.slice sa' st.length sc') st := by simpa [OwnI] using hown
  have hlt : ∀ q, (Value.slice sa' st.length sc').ownBlock = some q → u1.heap.size ≤ q ∧ q < w2.heap.size := fun q hq => by
    refine ⟨?_, (hO.lt q hq).2⟩
    rcases hat with e | e
    · rw [hq] at e; simp [Value.ownBlock] at e; omega
    · rw [hq] at e; simp at e; omega
  have O5 := O4.set 4 (.slice sa' st.length sc') (by simp)
  have R5 := (((unhide HR).alloc (.cells #[] 3)).kept TT (fun e => by omega)).other (C := w.heap.size) 4 (.slice sa' st.length sc') (by omega)
  have B5 := ((unhide HK1).grown hgrow (unhide HK1).size (fun q e => by simp [Value.ownBlock] at e; omega)).setCell (p := ⟨w.heap.size, 4, none⟩) (Nat.le_refl _) (.slice sa' st.length sc')
  have T5 := (Touch.refl (fun q => q = w.heap.size) w2).setCell ⟨w.heap.size, 4, none⟩ (.slice sa' st.length sc') (fun _ => rfl)
  have TF := (Touch.refl (fun _ => False) u1).alloc (.cells #[] 3)
  have hbs : u1.heap.size ≤ w2.heap.size := by have := TT.size; simp at this; omega
  have Ul := (((unhide Ml).kept TF (fun _ _ e => e)).kept TT (fun q hq e => by have := (unhide Il).1 q hq; have := unhide Jl; omega)).kept T5 (fun q hq e => by have := (unhide Il).1 q hq; have := (unhide Il).2; omega)
  have Us := hO.kept T5 (fun q hq e => by have := (hlt q hq).1; omega)
  have Is := hide (show (∀ q, (Value.slice sa' st.length sc').ownBlock = some q → u1.heap.size ≤ q ∧ q < w2.heap.size) ∧ w.heap.size + 1 < u1.heap.size from ⟨hlt, by omega⟩)
  have hsz : (w2.setCell ⟨w.heap.size, 4, none⟩ (.slice sa' st.length sc')).heap.size = w2.heap.size := by simp
  have Z5 := hide (show w.heap.size + 2 ≤ (w2.setCell ⟨w.heap.size, 4, none⟩ (.slice sa' st.length sc')).heap.size by rw [hsz]; omega)
  have Js := hide (show w2.heap.size ≤ (w2.setCell ⟨w.heap.size, 4, none⟩ (.slice sa' st.length sc')).heap.size by rw [hsz]; exact Nat.le_refl _)
  have J2l := hide (Nat.le_trans (unhide Jl) (show u1.heap.size ≤ (w2.setCell ⟨w.heap.size, 4, none⟩ (.slice sa' st.length sc')).heap.size by rw [hsz]; exact hbs))
  have HO5 := hide O5
  have HR5 := hide R5
  have HB5 := hide B5
  have Nl := hide Ul
  have Ns := hide Us
  clear O5 R5 B5 T5 TF hO hlt hz hsz hbs hown hgrow hat TT O4 HO HR HB HZ HZW oc fc oc1 HA HOO HRW HE HK1 hbase Ul Us Ml Jl
  generalize (w2.setCell ⟨w.heap.size, 4, none⟩ (.slice sa' st.length sc')) = u2 at *
  have HO := hide (unhide HO5)
  clear HO5
  have HR := hide (unhide HR5)
  clear HR5
  have HB := hide (unhide HB5)
  clear HB5
  have HZ := hide (unhide Z5)
  clear Z5
  have Ml := hide (unhide Nl)
  clear Nl
  have Ms := hide (unhide Ns)
  clear Ns
  have Jl := hide (unhide J2l)
  clear J2l
  have Elv := hide (unhide Jl)
  have Esv := hide (unhide Js)
  have hz := unhide HZ
  have hkb := (unhide HB).size
  have OO1 := (unhide HO).alloc (.cells #[] 3)
  have oc1 := OO1.cell 6 rfl
  have HK1 := hide ((unhide HB).alloc hkb (.cells #[] 3))
  have HE := hide (own_noneJ u2 w.heap.size u2.heap.size rfl hkb)
  have HRW := hide ((unhide HR_).below (unhide HK1)).vs.rw
  have HOO := hide OO1
  have hbase := (unhide HK1).size
  have HZW := hide hz
  clear OO1 hz hkb
  go_upto_region 4 with (at_builtin; refine wpList_append_row _ rfl _ _ _ rfl w.heap.size 3 j0 _ 1 8 Try.underlying23 hj hy0 hy1 hy2 rfl (by omega) (.slice (some ⟨u2.heap.size, 0, none⟩) 0 0) 0 [] rfl (unhide HE) (.slice va vs.length vc) vs.length (vs.map (Value.int .i64)) rfl (unhide HRW) (by simp) (by intro u hu; simp only [List.mem_map] at hu; obtain ⟨s, _, rfl⟩ := hu; rfl) (by unfold maxLen; omega) (by omega) hbase ?_; intro va' vc' w3 hown hgrow hat; rw [Nat.zero_add] at hown hat ⊢; have TT := (Touch.refl (fun q => q = u2.heap.size) (u2.alloc (.cells #[] 3))).grown hgrow (fun q e _ => by simp [Value.ownBlock] at e; exact e.symm); have O4 := (unhide HOO).kept TT (fun e => by have := unhide HZW; omega); have oc := O4.cell 6 rfl; have fc := O4.fro 6; have HA := hide (And.intro hown (And.intro hgrow (And.intro hat (And.intro TT O4)))); clear hown hgrow hat TT O4)
  obtain ⟨hown, hgrow, hat, TT, O4⟩ := unhide HA
  have hz := unhide HZW
  have hO : OwnI w.heap.size w3 (.slice va' vs.length vc') vs := by simpa [OwnI] using hown
  have hlt : ∀ q, (Value.slice va' vs.length vc').ownBlock = some q → u2.heap.size ≤ q ∧ q < w3.heap.size := fun q hq => by
    refine ⟨?_, (hO.lt q hq).2⟩
    rcases hat with e | e
    · rw [hq] at e; simp [Value.ownBlock] at e; omega
    · rw [hq] at e; simp at e; omega
  have O5 := O4.set 6 (.slice va' vs.length vc') (by simp)
  have R5 := (((unhide HR).alloc (.cells #[] 3)).kept TT (fun e => by omega)).other (C := w.heap.size) 6 (.slice va' vs.length vc') (by omega)
  have B5 := ((unhide HK1).grown hgrow (unhide HK1).size (fun q e => by simp [Value.ownBlock] at e; omega)).setCell (p := ⟨w.heap.size, 6, none⟩) (Nat.le_refl _) (.slice va' vs.length vc')
  have T5 := (Touch.refl (fun q => q = w.heap.size) w3).setCell ⟨w.heap.size, 6, none⟩ (.slice va' vs.length vc') (fun _ => rfl)
  have TF := (Touch.refl (fun _ => False) u2).alloc (.cells #[] 3)
  have hbs : u2.heap.size ≤ w3.heap.size := by have := TT.size; simp at this; omega
  have Ul := (((unhide Ml).kept TF (fun _ _ e => e)).kept TT (fun q hq e => by have := (unhide Il).1 q hq; have := unhide Jl; omega)).kept T5 (fun q hq e => by have := (unhide Il).1 q hq; have := (unhide Il).2; omega)
  have Us := (((unhide Ms).kept TF (fun _ _ e => e)).kept TT (fun q hq e => by have := (unhide Is).1 q hq; have := unhide Js; omega)).kept T5 (fun q hq e => by have := (unhide Is).1 q hq; have := (unhide Is).2; omega)
  have Uv := hO.kept T5 (fun q hq e => by have := (hlt q hq).1; omega)
  have Iv := hide (show (∀ q, (Value.slice va' vs.length vc').ownBlock = some q → u2.heap.size ≤ q ∧ q < w3.heap.size) ∧ w.heap.size + 1 < u2.heap.size from ⟨hlt, by omega⟩)
  have hsz : (w3.setCell ⟨w.heap.size, 6, none⟩ (.slice va' vs.length vc')).heap.size = w3.heap.size := by simp
  have Z5 := hide (show w.heap.size + 2 ≤ (w3.setCell ⟨w.heap.size, 6, none⟩ (.slice va' vs.length vc')).heap.size by rw [hsz]; omega)
  have Jv := hide (show w3.heap.size ≤ (w3.setCell ⟨w.heap.size, 6, none⟩ (.slice va' vs.length vc')).heap.size by rw [hsz]; exact Nat.le_refl _)
  have J2l := hide (Nat.le_trans (unhide Jl) (show u2.heap.size ≤ (w3.setCell ⟨w.heap.size, 6, none⟩ (.slice va' vs.length vc')).heap.size by rw [hsz]; exact hbs))
  have J2s := hide (Nat.le_trans (unhide Js) (show u2.heap.size ≤ (w3.setCell ⟨w.heap.size, 6, none⟩ (.slice va' vs.length vc')).heap.size by rw [hsz]; exact hbs))
  have HO5 := hide O5
  have HR5 := hide R5
  have HB5 := hide B5
  have Nl := hide Ul
  have Ns := hide Us
  have Nv := hide Uv
  clear O5 R5 B5 T5 TF hO hlt hz hsz hbs hown hgrow hat TT O4 HO HR HB HZ HZW oc fc oc1 HA HOO HRW HE HK1 hbase Ul Us Uv Ml Jl Ms Js
  generalize (w3.setCell ⟨w.heap.size, 6, none⟩ (.slice va' vs.length vc')) = u3 at *
  have HO := hide (unhide HO5)
  clear HO5
  have HR := hide (unhide HR5)
  clear HR5
  have HB := hide (unhide HB5)
  clear HB5
  have HZ := hide (unhide Z5)
  clear Z5
  have Ml := hide (unhide Nl)
  clear Nl
  have Ms := hide (unhide Ns)
  clear Ns
  have Mv := hide (unhide Nv)
  clear Nv
  have Jl := hide (unhide J2l)
  clear J2l
  have Js := hide (unhide J2s)
  clear J2s
  have Eln := hide (unhide Jl)
  have Esn := hide (unhide Js)
  have Evn := hide (unhide Jv)
  have hz := unhide HZ
  have hkb := (unhide HB).size
  have OO1 := (unhide HO).alloc (.cells #[] 3)
  have oc1 := OO1.cell 7 rfl
  have HK1 := hide ((unhide HB).alloc hkb (.cells #[] 3))
  have HE := hide (own_noneJ u3 w.heap.size u3.heap.size rfl hkb)
  have HRW := hide ((unhide HR_).below (unhide HK1)).nx.rw
  have HOO := hide OO1
  have hbase := (unhide HK1).size
  have HZW := hide hz
  clear OO1 hz hkb
  go_upto_region 5 with (at_builtin; refine wpList_append_row _ rfl _ _ _ rfl w.heap.size 3 j0 _ 1 8 Try.underlying23 hj hy0 hy1 hy2 rfl (by omega) (.slice (some ⟨u3.heap.size, 0, none⟩) 0 0) 0 [] rfl (unhide HE) (.slice na nx.length nc) nx.length (nx.map (Value.int .i64)) rfl (unhide HRW) (by simp) (by intro u hu; simp only [List.mem_map] at hu; obtain ⟨s, _, rfl⟩ := hu; rfl) (by unfold maxLen; omega) (by omega) hbase ?_; intro na' nc' w4 hown hgrow hat; rw [Nat.zero_add] at hown hat ⊢; have TT := (Touch.refl (fun q => q = u3.heap.size) (u3.alloc (.cells #[] 3))).grown hgrow (fun q e _ => by simp [Value.ownBlock] at e; exact e.symm); have O4 := (unhide HOO).kept TT (fun e => by have := unhide HZW; omega); have oc := O4.cell 7 rfl; have fc := O4.fro 7; have HA := hide (And.intro hown (And.intro hgrow (And.intro hat (And.intro TT O4)))); clear hown hgrow hat TT O4)
  obtain ⟨hown, hgrow, hat, TT, O4⟩ := unhide HA
  have hz := unhide HZW
  have hO : OwnI w.heap.size w4 (.slice na' nx.length nc') nx := by simpa [OwnI] using hown
  have hlt : ∀ q, (Value.slice na' nx.length nc').ownBlock = some q → u3.heap.size ≤ q ∧ q < w4.heap.size := fun q hq => by
    refine ⟨?_, (hO.lt q hq).2⟩
    rcases hat with e | e
    · rw [hq] at e; simp [Value.ownBlock] at e; omega
    · rw [hq] at e; simp at e; omega
  have O5 := O4.set 7 (.slice na' nx.length nc') (by simp)
  have R5 := (((unhide HR).alloc (.cells #[] 3)).kept TT (fun e => by omega)).other (C := w.heap.size) 7 (.slice na' nx.length nc') (by omega)
  have B5 := ((unhide HK1).grown hgrow (unhide HK1).size (fun q e => by simp [Value.ownBlock] at e; omega)).setCell (p := ⟨w.heap.size, 7, none⟩) (Nat.le_refl _) (.slice na' nx.length nc')
  have T5 := (Touch.refl (fun q => q = w.heap.size) w4).setCell ⟨w.heap.size, 7, none⟩ (.slice na' nx.length nc') (fun _ => rfl)
  have TF := (Touch.refl (fun _ => False) u3).alloc (.cells #[] 3)
  have hbs : u3.heap.size ≤ w4.heap.size := by have := TT.size; simp at this; omega
  have Ul := (((unhide Ml).kept TF (fun _ _ e => e)).kept TT (fun q hq e => by have := (unhide Il).1 q hq; have := unhide Jl; omega)).kept T5 (fun q hq e => by have := (unhide Il).1 q hq; have := (unhide Il).2; omega)
  have Us := (((unhide Ms).kept TF (fun _ _ e => e)).kept TT (fun q hq e => by have := (unhide Is).1 q hq; have := unhide Js; omega)).kept T5 (fun q hq e => by have := (unhide Is).1 q hq; have := (unhide Is).2; omega)
  have Uv := (((unhide Mv).kept TF (fun _ _ e => e)).kept TT (fun q hq e => by have := (unhide Iv).1 q hq; have := unhide Jv; omega)).kept T5 (fun q hq e => by have := (unhide Iv).1 q hq; have := (unhide Iv).2; omega)
  have Un := hO.kept T5 (fun q hq e => by have := (hlt q hq).1; omega)
  have In := hide (show (∀ q, (Value.slice na' nx.length nc').ownBlock = some q → u3.heap.size ≤ q ∧ q < w4.heap.size) ∧ w.heap.size + 1 < u3.heap.size from ⟨hlt, by omega⟩)
  have hsz : (w4.setCell ⟨w.heap.size, 7, none⟩ (.slice na' nx.length nc')).heap.size = w4.heap.size := by simp
  have Z5 := hide (show w.heap.size + 2 ≤ (w4.setCell ⟨w.heap.size, 7, none⟩ (.slice na' nx.length nc')).heap.size by rw [hsz]; omega)
  have Jn := hide (show w4.heap.size ≤ (w4.setCell ⟨w.heap.size, 7, none⟩ (.slice na' nx.length nc')).heap.size by rw [hsz]; exact Nat.le_refl _)
  have J2l := hide (Nat.le_trans (unhide Jl) (show u3.heap.size ≤ (w4.setCell ⟨w.heap.size, 7, none⟩ (.slice na' nx.length nc')).heap.size by rw [hsz]; exact hbs))
  have J2s := hide (Nat.le_trans (unhide Js) (show u3.heap.size ≤ (w4.setCell ⟨w.heap.size, 7, none⟩ (.slice na' nx.length nc')).heap.size by rw [hsz]; exact hbs))
  have J2v := hide (Nat.le_trans (unhide Jv) (show u3.heap.size ≤ (w4.setCell ⟨w.heap.size, 7, none⟩ (.slice na' nx.length nc')).heap.size by rw [hsz]; exact hbs))
  have HO5 := hide O5
  have HR5 := hide R5
  have HB5 := hide B5
  have Nl := hide Ul
  have Ns := hide Us
  have Nv := hide Uv
  have Nn := hide Un
  clear O5 R5 B5 T5 TF hO hlt hz hsz hbs hown hgrow hat TT O4 HO HR HB HZ HZW oc fc oc1 HA HOO HRW HE HK1 hbase Ul Us Uv Un Ml Jl Ms Js Mv Jv
  generalize (w4.setCell ⟨w.heap.size, 7, none⟩ (.slice na' nx.length nc')) = u4 at *
  have HO := hide (unhide HO5)
  clear HO5
  have HR := hide (unhide HR5)
  clear HR5
  have HB := hide (unhide HB5)
  clear HB5
  have HZ := hide (unhide Z5)
  clear Z5
  have Ml := hide (unhide Nl)
  clear Nl
  have Ms := hide (unhide Ns)
  clear Ns
  have Mv := hide (unhide Nv)
  clear Nv
  have Mn := hide (unhide Nn)
  clear Nn
  have Jl := hide (unhide J2l)
  clear J2l
  have Js := hide (unhide J2s)
  clear J2s
  have Jv := hide (unhide J2v)
  clear J2v
  have Elm := hide (unhide Jl)
  have Esm := hide (unhide Js)
  have Evm := hide (unhide Jv)
  have Enm := hide (unhide Jn)
  have hz := unhide HZ
  have hkb := (unhide HB).size
  have OO1 := (unhide HO).alloc (.cells #[] 3)
  have oc1 := OO1.cell 8 rfl
  have HK1 := hide ((unhide HB).alloc hkb (.cells #[] 3))
  have HE := hide (own_noneJ u4 w.heap.size u4.heap.size rfl hkb)
  have HRW := hide ((unhide HR_).below (unhide HK1)).mt.rw
  have HOO := hide OO1
  have hbase := (unhide HK1).size
  have HZW := hide hz
  clear OO1 hz hkb
  go_upto_region 6 with (at_builtin; refine wpList_append_row _ rfl _ _ _ rfl w.heap.size 3 j0 _ 1 8 Try.underlying23 hj hy0 hy1 hy2 rfl (by omega) (.slice (some ⟨u4.heap.size, 0, none⟩) 0 0) 0 [] rfl (unhide HE) (.slice ma mt.length mc) mt.length (mt.map (Value.int .i64)) rfl (unhide HRW) (by simp) (by intro u hu; simp only [List.mem_map] at hu; obtain ⟨s, _, rfl⟩ := hu; rfl) (by unfold maxLen; omega) (by omega) hbase ?_; intro ma' mc' w5 hown hgrow hat; rw [Nat.zero_add] at hown hat ⊢; have TT := (Touch.refl (fun q => q = u4.heap.size) (u4.alloc (.cells #[] 3))).grown hgrow (fun q e _ => by simp [Value.ownBlock] at e; exact e.symm); have O4 := (unhide HOO).kept TT (fun e => by have := unhide HZW; omega); have oc := O4.cell 8 rfl; have fc := O4.fro 8; have HA := hide (And.intro hown (And.intro hgrow (And.intro hat (And.intro TT O4)))); clear hown hgrow hat TT O4)
  obtain ⟨hown, hgrow, hat, TT, O4⟩ := unhide HA
  have hz := unhide HZW
  have hO : OwnI w.heap.size w5 (.slice ma' mt.length mc') mt := by simpa [OwnI] using hown
  have hlt : ∀ q, (Value.slice ma' mt.length mc').ownBlock = some q → u4.heap.size ≤ q ∧ q < w5.heap.size := fun q hq => by
    refine ⟨?_, (hO.lt q hq).2⟩
    rcases hat with e | e
    · rw [hq] at e; simp [Value.ownBlock] at e; omega
    · rw [hq] at e; simp at e; omega
  have O5 := O4.set 8 (.slice ma' mt.length mc') (by simp)
  have R5 := (((unhide HR).alloc (.cells #[] 3)).kept TT (fun e => by omega)).other (C := w.heap.size) 8 (.slice ma' mt.length mc') (by omega)
  have B5 := ((unhide HK1).grown hgrow (unhide HK1).size (fun q e => by simp [Value.ownBlock] at e; omega)).setCell (p := ⟨w.heap.size, 8, none⟩) (Nat.le_refl _) (.slice ma' mt.length mc')
  have T5 := (Touch.refl (fun q => q = w.heap.size) w5).setCell ⟨w.heap.size, 8, none⟩ (.slice ma' mt.length mc') (fun _ => rfl)
  have TF := (Touch.refl (fun _ => False) u4).alloc (.cells #[] 3)
  have hbs : u4.heap.size ≤ w5.heap.size := by have := TT.size; simp at this; omega
  have Ul := (((unhide Ml).kept TF (fun _ _ e => e)).kept TT (fun q hq e => by have := (unhide Il).1 q hq; have := unhide Jl; omega)).kept T5 (fun q hq e => by have := (unhide Il).1 q hq; have := (unhide Il).2; omega)
  have Us := (((unhide Ms).kept TF (fun _ _ e => e)).kept TT (fun q hq e => by have := (unhide Is).1 q hq; have := unhide Js; omega)).kept T5 (fun q hq e => by have := (unhide Is).1 q hq; have := (unhide Is).2; omega)
  have Uv := (((unhide Mv).kept TF (fun _ _ e => e)).kept TT (fun q hq e => by have := (unhide Iv).1 q hq; have := unhide Jv; omega)).kept T5 (fun q hq e => by have := (unhide Iv).1 q hq; have := (unhide Iv).2; omega)
  have Un := (((unhide Mn).kept TF (fun _ _ e => e)).kept TT (fun q hq e => by have := (unhide In).1 q hq; have := unhide Jn; omega)).kept T5 (fun q hq e => by have := (unhide In).1 q hq; have := (unhide In).2; omega)
  have Um := hO.kept T5 (fun q hq e => by have := (hlt q hq).1; omega)
  have Im := hide (show (∀ q, (Value.slice ma' mt.length mc').ownBlock = some q → u4.heap.size ≤ q ∧ q < w5.heap.size) ∧ w.heap.size + 1 < u4.heap.size from ⟨hlt, by omega⟩)
  have o50 := O5.cell 0 rfl
  have o51 := O5.cell 1 rfl
  have o52 := O5.cell 2 rfl
  have o53 := O5.cell 3 rfl
  have o54 := O5.cell 4 rfl
  have o55 := O5.cell 5 rfl
  have o56 := O5.cell 6 rfl
  have o57 := O5.cell 7 rfl
  have o58 := O5.cell 8 rfl
  have o59 := O5.cell 9 rfl
  have o510 := O5.cell 10 rfl
  have o511 := O5.cell 11 rfl
  have o512 := O5.cell 12 rfl
  have r50 := R5.cell 0 rfl
  have fr0 := R5.fro 0
  have r51 := R5.cell 1 rfl
  have fr1 := R5.fro 1
  have r52 := R5.cell 2 rfl
  have fr2 := R5.fro 2
  have r53 := R5.cell 3 rfl
  have fr3 := R5.fro 3
  have r54 := R5.cell 4 rfl
  have fr4 := R5.fro 4
  have r55 := R5.cell 5 rfl
  have fr5 := R5.fro 5
  have r56 := R5.cell 6 rfl
  have fr6 := R5.fro 6
  have r57 := R5.cell 7 rfl
  have fr7 := R5.fro 7
  have r58 := R5.cell 8 rfl
  have fr8 := R5.fro 8
  have r59 := R5.cell 9 rfl
  have fr9 := R5.fro 9
  have r510 := R5.cell 10 rfl
  have fr10 := R5.fro 10
  have r511 := R5.cell 11 rfl
  have fr11 := R5.fro 11
  have r512 := R5.cell 12 rfl
  have fr12 := R5.fro 12
  have HR9 := hide (((((((((((((R5.set 0 (.int .i64 id) (by simp)).set 1 (.int .i64 tm) (by simp)).set 2 (.int .i64 vo) (by simp)).set 3 (.slice la' lg.length lc') (by simp)).set 4 (.slice sa' st.length sc') (by simp)).set 5 (.int .i64 ro) (by simp)).set 6 (.slice va' vs.length vc') (by simp)).set 7 (.slice na' nx.length nc') (by simp)).set 8 (.slice ma' mt.length mc') (by simp)).set 9 (.int .i64 cm) (by simp)).set 10 (.int .i64 el) (by simp)).set 11 (.int .i64 wt) (by simp)).set 12 (.bool up) (by simp))
  have B9 := hide (((((((((((((B5.setCell (p := ⟨w.heap.size + 1, 0, none⟩) (by simp) (.int .i64 id)).setCell (p := ⟨w.heap.size + 1, 1, none⟩) (by simp) (.int .i64 tm)).setCell (p := ⟨w.heap.size + 1, 2, none⟩) (by simp) (.int .i64 vo)).setCell (p := ⟨w.heap.size + 1, 3, none⟩) (by simp) (.slice la' lg.length lc')).setCell (p := ⟨w.heap.size + 1, 4, none⟩) (by simp) (.slice sa' st.length sc')).setCell (p := ⟨w.heap.size + 1, 5, none⟩) (by simp) (.int .i64 ro)).setCell (p := ⟨w.heap.size + 1, 6, none⟩) (by simp) (.slice va' vs.length vc')).setCell (p := ⟨w.heap.size + 1, 7, none⟩) (by simp) (.slice na' nx.length nc')).setCell (p := ⟨w.heap.size + 1, 8, none⟩) (by simp) (.slice ma' mt.length mc')).setCell (p := ⟨w.heap.size + 1, 9, none⟩) (by simp) (.int .i64 cm)).setCell (p := ⟨w.heap.size + 1, 10, none⟩) (by simp) (.int .i64 el)).setCell (p := ⟨w.heap.size + 1, 11, none⟩) (by simp) (.int .i64 wt)).setCell (p := ⟨w.heap.size + 1, 12, none⟩) (by simp) (.bool up))
  have T9 := ((((((((((((((Touch.refl (fun q => q = w.heap.size + 1) (w5.setCell ⟨w.heap.size, 8, none⟩ (.slice ma' mt.length mc'))).setCell ⟨w.heap.size + 1, 0, none⟩ (.int .i64 id) (fun _ => rfl)).setCell ⟨w.heap.size + 1, 1, none⟩ (.int .i64 tm) (fun _ => rfl)).setCell ⟨w.heap.size + 1, 2, none⟩ (.int .i64 vo) (fun _ => rfl)).setCell ⟨w.heap.size + 1, 3, none⟩ (.slice la' lg.length lc') (fun _ => rfl)).setCell ⟨w.heap.size + 1, 4, none⟩ (.slice sa' st.length sc') (fun _ => rfl)).setCell ⟨w.heap.size + 1, 5, none⟩ (.int .i64 ro) (fun _ => rfl)).setCell ⟨w.heap.size + 1, 6, none⟩ (.slice va' vs.length vc') (fun _ => rfl)).setCell ⟨w.heap.size + 1, 7, none⟩ (.slice na' nx.length nc') (fun _ => rfl)).setCell ⟨w.heap.size + 1, 8, none⟩ (.slice ma' mt.length mc') (fun _ => rfl)).setCell ⟨w.heap.size + 1, 9, none⟩ (.int .i64 cm) (fun _ => rfl)).setCell ⟨w.heap.size + 1, 10, none⟩ (.int .i64 el) (fun _ => rfl)).setCell ⟨w.heap.size + 1, 11, none⟩ (.int .i64 wt) (fun _ => rfl)).setCell ⟨w.heap.size + 1, 12, none⟩ (.bool up) (fun _ => rfl))
  have Vl := Ul.kept T9 (fun q hq e => by have := (unhide Il).1 q hq; have := (unhide Il).2; omega)
  have Vs := Us.kept T9 (fun q hq e => by have := (unhide Is).1 q hq; have := (unhide Is).2; omega)
  have Vv := Uv.kept T9 (fun q hq e => by have := (unhide Iv).1 q hq; have := (unhide Iv).2; omega)
  have Vn := Un.kept T9 (fun q hq e => by have := (unhide In).1 q hq; have := (unhide In).2; omega)
  have Vm := Um.kept T9 (fun q hq e => by have := (unhide Im).1 q hq; have := (unhide Im).2; omega)
  have F9 := hide (And.intro Vl (And.intro Vs (And.intro Vv (And.intro Vn Vm))))
  have e5 := hbs
  have HBS := hide e5
  clear O5 R5 B5 T5 T9 TF hO hlt hz hown hgrow hat TT O4 Ul Us Uv Un Um Vl Vs Vv Vn Vm HO HR HB HZ Ml Ms Mv Mn hbs e5 oc fc oc1 HA HOO HRW HE HK1 HZW
  go_wp2_with fail
  have R9 := unhide HR9
  have z0 := R9.cell 0 rfl
  have z1 := R9.cell 1 rfl
  have z2 := R9.cell 2 rfl
  have z3 := R9.cell 3 rfl
  have z4 := R9.cell 4 rfl
  have z5 := R9.cell 5 rfl
  have z6 := R9.cell 6 rfl
  have z7 := R9.cell 7 rfl
  have z8 := R9.cell 8 rfl
  have z9 := R9.cell 9 rfl
  have z10 := R9.cell 10 rfl
  have z11 := R9.cell 11 rfl
  have z12 := R9.cell 12 rfl
  refine bodyPost_ret (v := .agg #[.int .i64 id, .int .i64 tm, .int .i64 vo, .slice la' lg.length lc', .slice sa' st.length sc', .int .i64 ro, .slice va' vs.length vc', .slice na' nx.length nc', .slice ma' mt.length mc', .int .i64 cm, .int .i64 el, .int .i64 wt, .bool up]) (by simp [results, Try.results21, go_sem, z0, z1, z2, z3, z4, z5, z6, z7, z8, z9, z10, z11, z12]) rfl ?_
  have il := unhide Il
  have is_ := unhide Is
  have iv := unhide Iv
  have in_ := unhide In
  have im := unhide Im
  refine ⟨la', lc', sa', sc', va', vc', na', nc', ma', mc', rfl, ⟨(unhide F9).1, (unhide F9).2.1, (unhide F9).2.2.1, (unhide F9).2.2.2.1, (unhide F9).2.2.2.2, ?_⟩, unhide B9⟩
  simp only [List.pairwise_cons, List.mem_cons, List.not_mem_nil, or_false, forall_eq_or_imp, forall_eq, List.Pairwise.nil, and_true, false_implies, implies_true]
  refine ⟨⟨?_, ?_, ?_, ?_⟩, ⟨?_, ?_, ?_⟩, ⟨?_, ?_⟩, ?_⟩
  · exact apart_iv il.1 is_.1 (unhide Els)
  · exact apart_iv il.1 iv.1 (unhide Elv)
  · exact apart_iv il.1 in_.1 (unhide Eln)
  · exact apart_iv il.1 im.1 (unhide Elm)
  · exact apart_iv is_.1 iv.1 (unhide Esv)
  · exact apart_iv is_.1 in_.1 (unhide Esn)
  · exact apart_iv is_.1 im.1 (unhide Esm)
  · exact apart_iv iv.1 in_.1 (unhide Evn)
  · exact apart_iv iv.1 im.1 (unhide Evm)
  · exact apart_iv in_.1 im.1 (unhide Enm)
end Go.Proofs.Ytglkgmijcefjkaa
