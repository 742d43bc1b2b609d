/- The steps of a proof, pure; impl.ProveKey. -/
import Derived.Test.YtnajpeaieeaflaaDoorBrV
import Derived.Test.YtnajpeaieeaflaaDoorBrG
import Derived.Test.YtnajpeaieeaflaaDoorMsL
import Derived.Test.YtnajpeaieeaflaaDoorSet4
import Derived.Deep.AppendLies
namespace Go.Proofs.YtnajpeaieeaflaaDoor.Sha
open Go.ChangeShapes Go.WideShapes Go.ChangeAt Go.RowKit
set_option linter.unusedVariables false
set_option linter.unusedSimpArgs false

/-- The steps from the top down to the leaf that a hash's bits lead to. -/
def stepsV (h : ByteArray) : Tr → List Pk
  | .leaf _ _ => []
  | .fork a _ l r => if bitN h a = 0 then ⟨a, trR r⟩ :: stepsV h l else ⟨a, trR l⟩ :: stepsV h r
theorem steps_len (h : ByteArray) : ∀ (t : Tr) (m : Nat), Rise m t → (stepsV h t).length + m ≤ 256
  | .leaf k v, m, hr => by
    have : m ≤ 256 := hr
    simp only [stepsV, List.length_nil]
    omega
  | .fork a hh l r, m, hr => by
    obtain ⟨r0, r1, r2, r3⟩ := hr
    have h1 := steps_len h l _ r2
    have h2 := steps_len h r _ r3
    unfold stepsV
    split <;> simp only [List.length_cons] <;> omega
theorem stp_one (l : List Pk) : ∀ u ∈ pksC l, u.oneCell' = true := by
  intro u hu
  obtain ⟨f, _, hf⟩ := List.mem_flatMap.1 hu
  simp only [pkC, List.mem_cons, List.not_mem_nil, or_false] at hf
  rcases hf with rfl | rfl <;> rfl
/-- A step more behind an own row. -/
theorem OwnP.pushed {B : Nat} {w : World} {v : Value} {l : List Pk} {x : Pk} {n : Nat} (h : w.ownsRow B 53 2 v n (pksC l ++ pksC [x])) (hn : n = l.length + 1) : OwnP B w v (l ++ [x]) := by
  unfold OwnP
  rw [List.length_append, List.length_singleton, ← hn, show pksC (l ++ [x]) = pksC l ++ pksC [x] from List.flatMap_append]
  exact h
/-- What ProveKey says of a map in memory. -/
def pkFound (o : Option Tr) (key : ByteArray) : Bool := match o with
  | none => false
  | some t => decide ((leadL (kh key) t).1 = key)
def pkKV (o : Option Tr) (key : ByteArray) : ByteArray × ByteArray := match o with
  | none => (⟨#[]⟩, ⟨#[]⟩)
  | some t => leadL (kh key) t
def pkSteps (o : Option Tr) (key : ByteArray) : List Pk := match o with
  | none => []
  | some t => stepsV (kh key) t
/-- A proof as a value, its steps a slice of the call's own. -/
def PrV (B : Nat) (w : World) (u : Value) (f : Bool) (kv : ByteArray × ByteArray) (l : List Pk) : Prop := ∃ sv, u = .agg #[.bool f, .string kv.1, .string kv.2, sv] ∧ OwnP B w sv l
/-- What ProveKey answers: Found, Key and Value, Steps, the code. -/
structure Pf where
  f : Bool
  kv : ByteArray × ByteArray
  st : List Pk
  c : Int
def pfOut (b : Br) (key : ByteArray) : Pf := if txC key.size 1 24 = 0 then (match mapV b with
    | none => ⟨false, (⟨#[]⟩, ⟨#[]⟩), [], 1⟩
    | some o => ⟨pkFound o key, pkKV o key, pkSteps o key, 0⟩)
  else ⟨false, (⟨#[]⟩, ⟨#[]⟩), [], txC key.size 1 24⟩
theorem pf_len (b : Br) (key : ByteArray) : (pfOut b key).st.length ≤ 256 := by
  unfold pfOut
  split
  · cases hm : mapV b with
    | none => simp
    | some o =>
      dsimp only
      have hr := mapV_rise hm
      cases o with
      | none => simp [pkSteps]
      | some t =>
        have := steps_len (kh key) t 0 hr
        simp only [pkSteps]
        omega
  · simp
theorem infoMst : (Tryd.prog.info? 53).map (fun i => (i.zero, i.size, i.bytes)) = some (some (.agg #[.int .i64 0, .string ⟨#[]⟩]), 2, 24) := infoPk
theorem OwnP.down {B B' : Nat} {w : World} {v : Value} {l : List Pk} (h : OwnP B w v l) (hb : B' ≤ B) : OwnP B' w v l := by
  refine ⟨h.1, ?_⟩
  rcases h.2 with h0 | ⟨g, cap, cur, e, hb', r⟩
  · exact .inl h0
  · exact .inr ⟨g, cap, cur, e, Nat.le_trans hb hb', r⟩
/-- Behind the last stores: the result's box, what the result owns, all that was there. -/
theorem end4 {w wx : World} {R B : Nat} {x0 x1 x2 x3 sv : Value} {l : List Pk} (a b c d : Value) (hX : Blk wx R [x0, x1, x2, x3]) (hb : Below w.heap.size w wx) (ho : OwnP B wx sv l) (h0 : w.heap.size ≤ R) (h1 : R < B) (h2 : w.heap.size ≤ B) :
    Blk (set4 wx R a b c d) R [a, b, c, d] ∧ OwnP w.heap.size (set4 wx R a b c d) sv l ∧ Below w.heap.size w (set4 wx R a b c d) :=
  ⟨set4_blk hX a b c d, OwnP.down (ho.kept (set4_touch wx R a b c d) (fun b hb e => by have := (ho.lt b hb).1; omega)) h2, hb.trans ((set4_touch wx R a b c d).below hb.size (fun b hb e => by omega))⟩
set_option maxRecDepth 100000 in
set_option maxHeartbeats 4000000 in
theorem implProveKey_any (k v : ByteArray) (a : Int) (ks : List Br) (key : ByteArray) (S : Nat → Prop) (kv : Value) (w : World) (hB : Brs S w kv ks) (hk : k.size ≤ maxLen) (hv : v.size ≤ maxLen) (hky : key.size ≤ 1048576) (ht : Tab w) :
    Calls Tryd.prog 7 #[.agg #[.string k, .string v, .int .i64 a, kv], .string key] w fun e w' => ∃ u, e = .returned (.tuple #[u, .int .i64 (pfOut (.mk k v a ks) key).c]) ∧ PrV w.heap.size w' u (pfOut (.mk k v a ks) key).f (pfOut (.mk k v a ks) key).kv (pfOut (.mk k v a ks) key).st ∧ Below w.heap.size w w' := by
  obtain ⟨i0, hi, hz0, hz1, hz2⟩ := info_parts infoPk
  obtain ⟨sa, cap, rfl, hcap, hcm⟩ := hB.shape
  have B0 := hide ((Below.refl w.heap.size w).alloc (Nat.le_refl _) (.cells #[.string k, .string v, .int .i64 a, .slice sa ks.length cap] 25))
  have R0 := hide (Blk.new (w.alloc (.cells #[.string k, .string v, .int .i64 a, .slice sa ks.length cap] 25)) #[.bool false, .string ⟨#[]⟩, .string ⟨#[]⟩, .slice none 0 0] 32 (w.heap.size + 1) (by simp))
  have B1 := hide ((unhide B0).alloc (unhide B0).size (.cells #[.bool false, .string ⟨#[]⟩, .string ⟨#[]⟩, .slice none 0 0] 32))
  have HR := hide (openMap_any k v a ks key S _ _ ((hB.blw (unhide B0)).blw ((Below.refl _ _).alloc (Nat.le_refl _) (.cells #[.bool false, .string ⟨#[]⟩, .string ⟨#[]⟩, .slice none 0 0] 32))) hk hv hky (ht.below (unhide B1)))
  have HT := hide ht
  have HRI := hide (fun o => mapV_rise (b := .mk k v a ks) (o := o))
  have HBR := hide (fun o => mapV_br (b := .mk k v a ks) (o := o))
  have HSZ := hide (show w.heap.size ≤ w.heap.size + 1 by omega)
  clear hB ht hk hv B0
  go_enter Tryd.func7, Tryd.ntmps7
  go_wp2_with fail
  generalize (w.alloc (.cells #[.string k, .string v, .int .i64 a, .slice sa ks.length cap] 25)).alloc (.cells #[.bool false, .string ⟨#[]⟩, .string ⟨#[]⟩, .slice none 0 0] 32) = w1 at *
  generalize w.heap.size + 1 = rb at *
  refine (unhide HR).mono ?_
  rintro e w2 ⟨pv, c, rfl, hb, hcs⟩
  have B2 := hide ((unhide B1).trans (hb.mono (unhide B1).size))
  have R2 := hide ((unhide R0).below hb)
  clear hb HR R0 B1
  rcases hcs with ⟨h1, h2, h3⟩ | ⟨h1, h2, h3, h4⟩ | ⟨h1, h2, o, h3, h4⟩
  · have HO : Hid (pfOut (.mk k v a ks) key = ⟨false, (⟨#[]⟩, ⟨#[]⟩), [], c⟩) := hide (by unfold pfOut; rw [if_neg h1, h2])
    have hcb : (c != 0) = true := by rw [h2]; simpa using h1
    have r0 := (unhide R2).cell 0 rfl
    have r1 := (unhide R2).cell 1 rfl
    have r2 := (unhide R2).cell 2 rfl
    have r3 := (unhide R2).cell 3 rfl
    have f0 := (unhide R2).fro 0
    have f1 := (unhide R2).fro 1
    have f2 := (unhide R2).fro 2
    have f3 := (unhide R2).fro 3
    have hE := end4 (.bool false) (.string ⟨#[]⟩) (.string ⟨#[]⟩) (.slice none 0 0) (unhide R2) (unhide B2) (OwnP.nil w2.heap.size w2) (unhide HSZ) (unhide R2).1 (unhide B2).size
    have z0 := hE.1.cell 0 rfl
    have z1 := hE.1.cell 1 rfl
    have z2 := hE.1.cell 2 rfl
    have z3 := hE.1.cell 3 rfl
    have HE := hide hE
    unfold set4 at z0 z1 z2 z3
    clear h1 h2 h3 hE
    go_wp2_with fail
    refine bodyPost_ret (v := .tuple #[.agg #[.bool false, .string ⟨#[]⟩, .string ⟨#[]⟩, .slice none 0 0], .int .i64 c]) (by simp [results, Tryd.results7, go_sem, z0, z1, z2, z3]) rfl ?_
    exact ⟨_, by rw [unhide HO], ⟨_, by rw [unhide HO], by rw [unhide HO]; exact (unhide HE).2.1⟩, (unhide HE).2.2⟩
  · have HO : Hid (pfOut (.mk k v a ks) key = ⟨false, (⟨#[]⟩, ⟨#[]⟩), [], 1⟩) := hide (by unfold pfOut; rw [if_pos h1, h2])
    subst h3
    have r0 := (unhide R2).cell 0 rfl
    have r1 := (unhide R2).cell 1 rfl
    have r2 := (unhide R2).cell 2 rfl
    have r3 := (unhide R2).cell 3 rfl
    have f0 := (unhide R2).fro 0
    have f1 := (unhide R2).fro 1
    have f2 := (unhide R2).fro 2
    have f3 := (unhide R2).fro 3
    have hE := end4 (.bool false) (.string ⟨#[]⟩) (.string ⟨#[]⟩) (.slice none 0 0) (unhide R2) (unhide B2) (OwnP.nil w2.heap.size w2) (unhide HSZ) (unhide R2).1 (unhide B2).size
    have z0 := hE.1.cell 0 rfl
    have z1 := hE.1.cell 1 rfl
    have z2 := hE.1.cell 2 rfl
    have z3 := hE.1.cell 3 rfl
    have HE := hide hE
    unfold set4 at z0 z1 z2 z3
    clear h1 h2 h4 hE
    go_wp2_with fail
    refine bodyPost_ret (v := .tuple #[.agg #[.bool false, .string ⟨#[]⟩, .string ⟨#[]⟩, .slice none 0 0], .int .i64 1]) (by simp [results, Tryd.results7, go_sem, z0, z1, z2, z3]) rfl ?_
    exact ⟨_, by rw [unhide HO], ⟨_, by rw [unhide HO], by rw [unhide HO]; exact (unhide HE).2.1⟩, (unhide HE).2.2⟩
  · have HO : Hid (pfOut (.mk k v a ks) key = ⟨pkFound o key, pkKV o key, pkSteps o key, 0⟩) := hide (by unfold pfOut; rw [if_pos h1, h3])
    have hk24 := (txC_key h1).2
    have HRO := hide (unhide HRI o h3)
    have HOK := hide (unhide HBR o h3).2
    have HPM := hide h4
    subst h2
    clear h1 h3 h4 HRI HBR
    cases o with
    | none =>
      obtain rfl : pv = none := unhide HPM
      have r0 := (unhide R2).cell 0 rfl
      have r1 := (unhide R2).cell 1 rfl
      have r2 := (unhide R2).cell 2 rfl
      have r3 := (unhide R2).cell 3 rfl
      have f0 := (unhide R2).fro 0
      have f1 := (unhide R2).fro 1
      have f2 := (unhide R2).fro 2
      have f3 := (unhide R2).fro 3
      have hE := end4 (.bool false) (.string ⟨#[]⟩) (.string ⟨#[]⟩) (.slice none 0 0) (unhide R2) (unhide B2) (OwnP.nil w2.heap.size w2) (unhide HSZ) (unhide R2).1 (unhide B2).size
      have z0 := hE.1.cell 0 rfl
      have z1 := hE.1.cell 1 rfl
      have z2 := hE.1.cell 2 rfl
      have z3 := hE.1.cell 3 rfl
      have HE := hide hE
      unfold set4 at z0 z1 z2 z3
      clear HPM hE
      go_wp2_with fail
      refine bodyPost_ret (v := .tuple #[.agg #[.bool false, .string ⟨#[]⟩, .string ⟨#[]⟩, .slice none 0 0], .int .i64 0]) (by simp [results, Tryd.results7, go_sem, z0, z1, z2, z3]) rfl ?_
      exact ⟨_, by rw [unhide HO], ⟨_, by rw [unhide HO]; rfl, by rw [unhide HO]; exact (unhide HE).2.1⟩, (unhide HE).2.2⟩
    | some t =>
      obtain ⟨p, rfl, hn⟩ := unhide HPM
      have HN := hide hn
      clear hn HPM
      obtain ⟨cap3, w3, hcv, hB3, hb3⟩ := str_bytesB key w2 (by unfold maxLen; omega)
      have HH := hide (implHash_any _ _ w3 hB3 ((unhide HT).below ((unhide B2).trans (hb3.mono (unhide B2).size))).2 ((unhide HT).below ((unhide B2).trans (hb3.mono (unhide B2).size))).1)
      have HV : Hid (kh key = hashV (bytesI key)) := rfl
      have hks := kh_size (k := key) (by omega)
      have B3 := hide ((unhide B2).trans (hb3.mono (unhide B2).size))
      have R3 := hide ((unhide R2).below hb3)
      have N3 := hide ((unhide HN).blw hb3)
      clear hB3 hb3 HN B2 R2
      go_wp2_with fail
      refine (unhide HH).mono ?_
      rintro e w4 ⟨rfl, hb4⟩
      rw [← unhide HV]
      have B4 := hide ((unhide B3).trans (hb4.mono (unhide B3).size))
      have R4 := hide ((unhide R3).below hb4)
      have N4 := hide ((unhide N3).blw hb4)
      clear hb4 HH N3 B3 HV hcv R3
      have hkeq : ∀ (x : Pf), x = ⟨pkFound (some t) key, pkKV (some t) key, pkSteps (some t) key, 0⟩ → x = ⟨decide ((leadL (kh key) t).1 = key), leadL (kh key) t, stepsV (kh key) t, 0⟩ := fun x hx => hx
      have HO2 := hide (hkeq _ (unhide HO))
      clear hkeq HO
      generalize kh key = h at *
      have HT4 := hide ((unhide HT).below (unhide B4))
      have hrb4 : rb < w4.heap.size := (unhide R4).1
      have HOKT : Hid (TrOK t) := HOK
      have HROT : Hid (Rise 0 t) := HRO
      clear HOK HRO
      go_wp2_with fail
      go_loopw [6, 9] (fun nv sv wr => ∃ (p' m : Nat) (t' : Tr) (S' : Nat → Prop) (acc : List Pk), nv = .pointer (some ⟨p', 0, none⟩) ∧ Nd w4 S' p' t' ∧ Rise m t' ∧ TrOK t' ∧ leadL h t' = leadL h t ∧ acc ++ stepsV h t' = stepsV h t ∧ acc.length ≤ m ∧ OwnP w4.heap.size wr sv acc ∧ Below w4.heap.size w4 wr) (fun nv _ wr => 256 - atCell nv wr)
      case atStart => exact ⟨p, 0, t, _, [], rfl, unhide N4, unhide HROT, unhide HOKT, rfl, rfl, Nat.le_refl _, OwnP.nil _ _, Below.refl _ _⟩
      case round =>
        clear N4 HROT HOKT
        obtain ⟨p', m, t', S', acc, rfl, hn, hr, hok, hl, hst, ham, hO, hb⟩ := hrel
        have HL := hide hl
        have HST := hide hst
        have hnr := hn.blw hb
        have HA := hide (atCell_is hnr.atC)
        have HOW := hide hO
        have HB := hide hb
        have hbs := hb.size
        obtain ⟨ga, gc, rfl⟩ : ∃ (ga : Option Addr) (gc : Nat), u9 = Value.slice ga acc.length gc := by
          rcases hO.2 with ⟨rfl, h0⟩ | ⟨g, cap, cur, rfl, _⟩
          · exact ⟨none, 0, by rw [h0]⟩
          · exact ⟨_, _, rfl⟩
        clear hl hst hO hb
        cases hn with
        | leaf S' p' k' v' h0 h1 =>
          have X := hnr
          cases X with
          | leaf _ _ _ _ _ hx =>
          have x0 := hx.cell 0 rfl
          have x1 := hx.cell 1 rfl
          have x3 := hx.cell 3 rfl
          have RR := (unhide R4).below (unhide HB)
          have r0 := RR.cell 0 rfl
          have r1 := RR.cell 1 rfl
          have r2 := RR.cell 2 rfl
          have r3 := RR.cell 3 rfl
          have f0 := RR.fro 0
          have f1 := RR.fro 1
          have f2 := RR.fro 2
          have f3 := RR.fro 3
          have HRR := hide RR
          clear hx RR hnr h1 hr HA
          have HE2 : Hid (pfOut (.mk k v a ks) key = ⟨decide (k' = key), (k', v'), acc, 0⟩) := hide (by
            have e1 : (k', v') = leadL h t := unhide HL
            have e2 : acc ++ [] = stepsV h t := unhide HST
            rw [List.append_nil] at e2
            rw [unhide HO2, ← e1, e2])
          clear HO2 HL HST
          have hE := fun fb => end4 (.bool fb) (.string k') (.string v') (.slice ga acc.length gc) (unhide HRR) ((unhide B4).trans ((unhide HB).mono (unhide B4).size)) (unhide HOW) (unhide HSZ) hrb4 (unhide B4).size
          have HEE := hide hE
          clear hE
          by_cases hkk : k' = key
          · have hbk := list_eq hkk
            have hE := unhide HEE true
            have z0 : (set4 wr rb (.bool true) (.string k') (.string v') (.slice ga acc.length gc)).drew.cell? ⟨rb, 0, none⟩ = some (.bool true) := hE.1.cell 0 rfl
            have z1 : (set4 wr rb (.bool true) (.string k') (.string v') (.slice ga acc.length gc)).drew.cell? ⟨rb, 1, none⟩ = some (.string k') := hE.1.cell 1 rfl
            have z2 : (set4 wr rb (.bool true) (.string k') (.string v') (.slice ga acc.length gc)).drew.cell? ⟨rb, 2, none⟩ = some (.string v') := hE.1.cell 2 rfl
            have z3 : (set4 wr rb (.bool true) (.string k') (.string v') (.slice ga acc.length gc)).drew.cell? ⟨rb, 3, none⟩ = some (.slice ga acc.length gc) := hE.1.cell 3 rfl
            have HE := hide hE
            unfold set4 at z0 z1 z2 z3
            rw [show decide (k' = key) = true by simpa using hkk] at HE2
            clear hkk hE HEE
            go_wp2_with fail
            go_big_region
            go_wp2_with fail
            refine bodyPost_ret (v := .tuple #[.agg #[.bool true, .string k', .string v', .slice ga acc.length gc], .int .i64 0]) (by simp [results, Tryd.results7, go_sem, z0, z1, z2, z3]) rfl ?_
            exact ⟨_, by rw [unhide HE2], ⟨_, by rw [unhide HE2], by rw [unhide HE2]; exact OwnP.below (unhide HE).2.1 (below_drewN (Below.refl _ _) 1)⟩, below_drewN (unhide HE).2.2 1⟩
          · have hbk := list_ne hkk
            have hE := unhide HEE false
            have z0 : (set4 wr rb (.bool false) (.string k') (.string v') (.slice ga acc.length gc)).drew.cell? ⟨rb, 0, none⟩ = some (.bool false) := hE.1.cell 0 rfl
            have z1 : (set4 wr rb (.bool false) (.string k') (.string v') (.slice ga acc.length gc)).drew.cell? ⟨rb, 1, none⟩ = some (.string k') := hE.1.cell 1 rfl
            have z2 : (set4 wr rb (.bool false) (.string k') (.string v') (.slice ga acc.length gc)).drew.cell? ⟨rb, 2, none⟩ = some (.string v') := hE.1.cell 2 rfl
            have z3 : (set4 wr rb (.bool false) (.string k') (.string v') (.slice ga acc.length gc)).drew.cell? ⟨rb, 3, none⟩ = some (.slice ga acc.length gc) := hE.1.cell 3 rfl
            have HE := hide hE
            unfold set4 at z0 z1 z2 z3
            rw [show decide (k' = key) = false by simpa using hkk] at HE2
            clear hkk hE HEE
            go_wp2_with fail
            go_big_region
            go_wp2_with fail
            refine bodyPost_ret (v := .tuple #[.agg #[.bool false, .string k', .string v', .slice ga acc.length gc], .int .i64 0]) (by simp [results, Tryd.results7, go_sem, z0, z1, z2, z3]) rfl ?_
            exact ⟨_, by rw [unhide HE2], ⟨_, by rw [unhide HE2], by rw [unhide HE2]; exact OwnP.below (unhide HE).2.1 (below_drewN (Below.refl _ _) 1)⟩, below_drewN (unhide HE).2.2 1⟩
        | fork S' Sl Sr p' a' hv' l' r' pl pr h0 h1 h2 h3 h4 h5 h6 =>
          obtain ⟨r0, r1, r2, r3⟩ := hr
          obtain ⟨_, _, okl, okr⟩ := hok
          have hx := h4.below (unhide HB)
          have x3 := hx.cell 3 rfl
          have x4 := hx.cell 4 rfl
          have x5 := hx.cell 5 rfl
          have HB2 := hide (fun wx => hashBit_any h a' wx hks r1)
          have ha : (a' : Int) < 256 := by omega
          have HE : Hid (leadL h (.fork a' hv' l' r') = if bitN h a' = 0 then leadL h l' else leadL h r') := rfl
          have HES : Hid (stepsV h (.fork a' hv' l' r') = if bitN h a' = 0 then ⟨a', trR r'⟩ :: stepsV h l' else ⟨a', trR l'⟩ :: stepsV h r') := rfl
          have h4' := h4
          clear h1 h2 h3 h4 h0 hnr
          rcases bitN_01 h a' with hb | hb
          · rw [hb] at HB2 HE HES
            rw [if_pos rfl] at HE HES
            have hwr : IntKind.i64.wrap (1 : Int) = 1 := by decide
            go_wp2_with fail
            refine (unhide HB2 wr).mono ?_
            rintro e w5 ⟨rfl, hw5⟩
            subst w5
            have hp5 : p' < wr.heap.size := hx.1
            have B5d := hide (below_drewN (unhide HB) 1)
            have HRT := hide (root_any h6 okr wr.drew (unhide B5d) ((unhide HT4).below (unhide B5d)))
            obtain ⟨tr, htr⟩ : ∃ tr, tr = trR r' := ⟨_, rfl⟩
            rw [← htr] at HRT HES
            clear htr
            go_wp2_with fail
            go_region_held_law (fun wx => wx.cell? ⟨p', 3, none⟩ = some (.int .i64 a') ∧ wx.cell? ⟨p', 5, none⟩ = some (.pointer (some ⟨pr, 0, none⟩)))
              (first | go_keep | exact ⟨(hb7.cell (p := ⟨p', 3, none⟩) h4'.1).trans (h4'.cell 3 rfl), (hb7.cell (p := ⟨p', 5, none⟩) h4'.1).trans (h4'.cell 5 rfl)⟩ | exact ⟨(hb6.cell (p := ⟨p', 3, none⟩) hp5).trans x3, (hb6.cell (p := ⟨p', 5, none⟩) hp5).trans x5⟩)
              (first
                | (go_at_call 18; refine (unhide HRT).mono ?_; rintro e w6 ⟨rfl, hb6⟩; have hb6' := (unhide B5d).trans (hb6.mono (unhide B5d).size); have hO6 := (OwnP.below (unhide HOW) (below_drewN (Below.refl _ wr) 1)).below hb6)
                | (refine step_append_lies _ (by rfl) _ _ _ (by rfl) w4.heap.size 53 i0 _ 2 24 Tryd.underlying30 hi hz0 hz1 hz2 rfl (by omega) (.slice ga acc.length gc) acc.length (pksC acc) (by rfl) (OwnP.below hO6 ((Below.refl w6.heap.size w6).alloc (Nat.le_refl _) (.cells #[.int .i64 a', .string tr] 53))) ⟨w6.heap.size, 0, none⟩ 1 1 (pksC [⟨a', tr⟩]) (by rfl) (by rfl) (World.news_of_block (cs := #[.int .i64 a', .string tr]) (t := 53) (fr := (0, 0)) (heap_alloc_new w6 _)) (stp_one _) (by omega) (by unfold maxLen; omega) (by omega) (by have := hb6'.size; simp; omega) (w6.heap.size + 1) (by simp) ?_; intro gg cg w7 hown7 hgrow7 hat7 hlt7; have hb7 : Below w4.heap.size w4 w7 := (hb6'.alloc hb6'.size (.cells #[.int .i64 a', .string tr] 53)).grown hgrow7 (by have := hb6'.size; simp; omega) (fun r hr => (hO6.lt r hr).1)))
            all_goals
              have KO := hide (OwnP.pushed (x := ⟨a', tr⟩) hown7 rfl)
              have KB := hide hb7
              clear hb6 hb6' hb7 hO6 hown7 hgrow7 hat7 hlt7
              have hx7 := h4'.below (unhide KB)
              have y4 := hx7.cell 4 rfl
              have y5 := hx7.cell 5 rfl
              have hN7 := h5.blw (unhide KB)
              have hat := atCell_is hN7.atC
              go_wp2_with fail
              have hle := r2.le
              have hle2 := r2.le256
              have hA := unhide HA
              refine ⟨⟨pl, a' + 1, l', _, acc ++ [⟨a', tr⟩], rfl, h5, r2, okl, ?_, ?_, ?_, ?_, unhide KB⟩, ?_⟩
              · rw [← unhide HL, unhide HE]
              · rw [List.append_assoc]; exact (congrArg (acc ++ ·) (unhide HES)).symm.trans (unhide HST)
              · rw [List.length_append, List.length_singleton]; omega
              · exact unhide KO
              · rw [hat, hA]; show 256 - l'.at_ < 256 - a'; omega
          · rw [hb] at HB2 HE HES
            rw [if_neg (by omega)] at HE HES
            have hwr : IntKind.i64.wrap (0 : Int) = 0 := by decide
            go_wp2_with fail
            refine (unhide HB2 wr).mono ?_
            rintro e w5 ⟨rfl, hw5⟩
            subst w5
            have hp5 : p' < wr.heap.size := hx.1
            have B5d := hide (below_drewN (unhide HB) 1)
            have HRT := hide (root_any h5 okl wr.drew (unhide B5d) ((unhide HT4).below (unhide B5d)))
            obtain ⟨tr, htr⟩ : ∃ tr, tr = trR l' := ⟨_, rfl⟩
            rw [← htr] at HRT HES
            clear htr
            go_wp2_with fail
            go_region_held_law (fun wx => wx.cell? ⟨p', 3, none⟩ = some (.int .i64 a') ∧ wx.cell? ⟨p', 4, none⟩ = some (.pointer (some ⟨pl, 0, none⟩)))
              (first | go_keep | exact ⟨(hb7.cell (p := ⟨p', 3, none⟩) h4'.1).trans (h4'.cell 3 rfl), (hb7.cell (p := ⟨p', 4, none⟩) h4'.1).trans (h4'.cell 4 rfl)⟩ | exact ⟨(hb6.cell (p := ⟨p', 3, none⟩) hp5).trans x3, (hb6.cell (p := ⟨p', 4, none⟩) hp5).trans x4⟩)
              (first
                | (go_at_call 18; refine (unhide HRT).mono ?_; rintro e w6 ⟨rfl, hb6⟩; have hb6' := (unhide B5d).trans (hb6.mono (unhide B5d).size); have hO6 := (OwnP.below (unhide HOW) (below_drewN (Below.refl _ wr) 1)).below hb6)
                | (refine step_append_lies _ (by rfl) _ _ _ (by rfl) w4.heap.size 53 i0 _ 2 24 Tryd.underlying30 hi hz0 hz1 hz2 rfl (by omega) (.slice ga acc.length gc) acc.length (pksC acc) (by rfl) (OwnP.below hO6 ((Below.refl w6.heap.size w6).alloc (Nat.le_refl _) (.cells #[.int .i64 a', .string tr] 53))) ⟨w6.heap.size, 0, none⟩ 1 1 (pksC [⟨a', tr⟩]) (by rfl) (by rfl) (World.news_of_block (cs := #[.int .i64 a', .string tr]) (t := 53) (fr := (0, 0)) (heap_alloc_new w6 _)) (stp_one _) (by omega) (by unfold maxLen; omega) (by omega) (by have := hb6'.size; simp; omega) (w6.heap.size + 1) (by simp) ?_; intro gg cg w7 hown7 hgrow7 hat7 hlt7; have hb7 : Below w4.heap.size w4 w7 := (hb6'.alloc hb6'.size (.cells #[.int .i64 a', .string tr] 53)).grown hgrow7 (by have := hb6'.size; simp; omega) (fun r hr => (hO6.lt r hr).1)))
            all_goals
              have KO := hide (OwnP.pushed (x := ⟨a', tr⟩) hown7 rfl)
              have KB := hide hb7
              clear hb6 hb6' hb7 hO6 hown7 hgrow7 hat7 hlt7
              have hx7 := h4'.below (unhide KB)
              have y4 := hx7.cell 4 rfl
              have y5 := hx7.cell 5 rfl
              have hN7 := h6.blw (unhide KB)
              have hat := atCell_is hN7.atC
              go_wp2_with fail
              have hle := r3.le
              have hle2 := r3.le256
              have hA := unhide HA
              refine ⟨⟨pr, a' + 1, r', _, acc ++ [⟨a', tr⟩], rfl, h6, r3, okr, ?_, ?_, ?_, ?_, unhide KB⟩, ?_⟩
              · rw [← unhide HL, unhide HE]
              · rw [List.append_assoc]; exact (congrArg (acc ++ ·) (unhide HES)).symm.trans (unhide HST)
              · rw [List.length_append, List.length_singleton]; omega
              · exact unhide KO
              · rw [hat, hA]; show 256 - r'.at_ < 256 - a'; omega
end Go.Proofs.YtnajpeaieeaflaaDoor.Sha
