/- (*actor).sendAll of (*actor).news, walked. -/
import Derived.Test.YtljolldacpkeeaaNpH
import Derived.Test.YtljolldacpkeeaaNodM
namespace Go.Proofs.Ytljolldacpkeeaa
open Go.ChangeShapes Go.WideShapes Go.ChangeAt Go.RowKit Go.Deep
set_option linter.unusedVariables false
set_option linter.unusedSimpArgs false

theorem Ens.kept {T : Nat → Prop} {w w' : World} {v : Value} {l : List En} (h : Ens w v l) (ht : Touch T w w') (hn : ∀ k, v.ownBlock = some k → ¬ T k) : Ens w' v l := by
  obtain ⟨a, cap, rfl, hn', hm, hc⟩ := h
  refine ⟨a, cap, rfl, hn', hm, ?_⟩
  rcases hc with h0 | ⟨b, off, rfl, hlt, hc⟩
  · exact .inl h0
  · exact .inr ⟨b, off, rfl, Nat.lt_of_lt_of_le hlt ht.size, fun i hi => ⟨(ht.cell (p := ⟨b, off + i * 3, none⟩) hlt (hn b rfl)).trans (hc i hi).1, (ht.cell (p := ⟨b, off + i * 3 + 1, none⟩) hlt (hn b rfl)).trans (hc i hi).2.1, (ht.cell (p := ⟨b, off + i * 3 + 2, none⟩) hlt (hn b rfl)).trans (hc i hi).2.2⟩⟩
set_option maxRecDepth 100000 in
set_option maxHeartbeats 2000000 in
theorem sendNews_any (B b : Nat) (id tm vo ro cm el wt : Int) (up : Bool) (lg : List En) (st vs nx mt : List Int) (la : Option Addr) (lc : Nat) (sa : Option Addr) (sc : Nat) (va : Option Addr) (vc : Nat) (na : Option Addr) (nc : Nat) (ma : Option Addr) (mc : Nat) (w : World) (hX : Blk w b [.int .i64 id, .int .i64 tm, .int .i64 vo, .slice la lg.length lc, .slice sa st.length sc, .int .i64 ro, .slice va vs.length vc, .slice na nx.length nc, .slice ma mt.length mc, .int .i64 cm, .int .i64 el, .int .i64 wt, .bool up, .slice none 0 0]) (hE : Ens w (.slice la lg.length lc) lg) (hEb : (Value.slice la lg.length lc).ownBlock ≠ some b) (hS : OwnI B w (.slice sa st.length sc) st) (hB : B ≤ w.heap.size) (hSb : (Value.slice sa st.length sc).ownBlock ≠ some b) (hN : Ints w (.slice na nx.length nc) nx) (hNb : (Value.slice na nx.length nc).ownBlock ≠ some b) (hz : ∀ i, (lg.getD i default).d.size ≤ maxLen) (hl : lg.length ≤ 60) (hg : CfgOK lg) (hx : nx.length = 7) (hmb : (mbAt lg st lg.length).length ≤ 7) (hd : ∀ d ∈ mbAt lg st lg.length, 0 ≤ d ∧ d < 7 ∧ (d ≠ id → 1 ≤ nx.getD d.toNat 0 ∧ nx.getD d.toNat 0 ≤ (lg.length : Int) + 1)) :
    Calls Try.prog 68 #[.pointer (some ⟨b, 0, none⟩), .func (.func 69) #[.pointer (some ⟨b, 0, none⟩)] #[]] w fun e w' => (∃ v, e = .returned v) ∧ ∃ v l, Blk w' b [.int .i64 id, .int .i64 tm, .int .i64 vo, .slice la lg.length lc, .slice sa st.length sc, .int .i64 ro, .slice va vs.length vc, .slice na nx.length nc, .slice ma mt.length mc, .int .i64 cm, .int .i64 el, .int .i64 wt, .bool up, v] ∧ Ns mgS w.heap.size w' v l.length l ∧ l.map bareM = tellL id tm cm lg nx (mbAt lg st lg.length) ∧ Touch (fun k => k = b) w w' := by
  have hbw := hX.1
  have HMem := hide (members2_any B b la lc sa sc lg st hz (by omega) hg w hbw (hX.cell 3 rfl) (hX.cell 4 rfl) hE hS hB)
  have HX := hide hX
  have HNw := hide (fun wx sv (d p : Nat) (hx' : Touch (fun k => k = b) w wx) (hbk : Blk wx b [.int .i64 id, .int .i64 tm, .int .i64 vo, .slice la lg.length lc, .slice sa st.length sc, .int .i64 ro, .slice va vs.length vc, .slice na nx.length nc, .slice ma mt.length mc, .int .i64 cm, .int .i64 el, .int .i64 wt, .bool up, sv]) (hd7 : d < 7) (hp : nx.getD d 0 = (p : Int) + 1) (hpl : p ≤ lg.length) => news_any b d p cm la lc na nc lg nx wx hbk.1 (hbk.cell 3 rfl) (hbk.cell 7 rfl) (hbk.cell 9 rfl) (hE.kept hx' (fun k hk e => hEb (by rw [hk, e]))) (hN.kept hx' (fun k hk e => hNb (by rw [hk, e]))) hl hx hd7 hp hpl)
  generalize hmbE : mbAt lg st lg.length = mb at *
  have HD := hide hd
  have HSB := hide hSb
  clear hX hE hEb hS hB hSb hN hNb hz hg hx hmbE hd
  go_enter Try.func68, Try.ntmps68
  go_wp2_with fail
  refine (unhide HMem).mono ?_
  rintro e w1 ⟨v, rfl, hv, hb1, hor⟩
  have hvne : v.ownBlock ≠ some b := fun e => by
    rcases hor with rfl | h
    · exact unhide HSB e
    · have := h b e; omega
  obtain ⟨av, cv, rfl, hmv, hcv⟩ := hv.ints
  have HCV := hide hcv
  have HB1 := hide hb1
  have X1 := hide ((unhide HX).below hb1)
  have hs1 := hb1.size
  have hvb : b < w1.heap.size := by omega
  have HVN := hide hvne
  clear hcv hmv hb1 HMem hor hv hvne HX HSB
  go_wp2_with fail
  go_loopw [9] (fun i wr => ∃ (k : Nat) (sv : Value) (l : List MV), k ≤ mb.length ∧ i = .int .i64 (k : Int) ∧ l.length ≤ k ∧ Hid (Blk wr b [.int .i64 id, .int .i64 tm, .int .i64 vo, .slice la lg.length lc, .slice sa st.length sc, .int .i64 ro, .slice va vs.length vc, .slice na nx.length nc, .slice ma mt.length mc, .int .i64 cm, .int .i64 el, .int .i64 wt, .bool up, sv]) ∧ Hid (Ns mgS w1.heap.size wr sv l.length l) ∧ Hid (l.map bareM = tellL id tm cm lg nx (mb.take k)) ∧ Hid (Touch (fun q => q = b) w1 wr)) (fun i _ => mb.length - (intOf i).toNat)
  case atStart => exact ⟨0, .slice none 0 0, [], Nat.zero_le _, rfl, Nat.le_refl _, X1, hide (Ns.nil _ _ _), hide rfl, hide (Touch.refl _ _)⟩
  case round =>
    obtain ⟨k, sv, l, hk, rfl, hlk, XR, NR, LR, TR⟩ := hrel
    have hrs := (unhide TR).size
    have x0 := (unhide XR).cell 0 rfl
    have TW := hide ((Touch.ofBelow (T := fun q => q = b) (unhide HB1)).trans (T' := fun q => q = b) (unhide TR) (fun _ _ e => e))
    by_cases hlt : k < mb.length
    · obtain ⟨bq, off, rfl, hbl, hsrc⟩ : ∃ b off, av = some ⟨b, off, none⟩ ∧ b < w1.heap.size ∧ ∀ i, i < mb.length → w1.cell? ⟨b, off + i, none⟩ = some (.int .i64 (mb.getD i 0)) := by
        rcases unhide HCV with h0 | h1
        · omega
        · exact h1
      have hbn : ¬ bq = b := fun e => unhide HVN (by rw [e]; rfl)
      have c0 := ((unhide TR).cell (p := ⟨bq, off + k, none⟩) hbl hbn).trans (hsrc k hlt)
      have hdk := unhide HD (mb.getD k 0) (by rw [List.getD_eq_getElem?_getD, List.getElem?_eq_getElem hlt]; simp)
      have HSk := hide (tellL_skip id tm cm lg nx mb k hlt)
      have HNe := hide (tellL_next id tm cm lg nx mb k hlt)
      clear hsrc
      generalize mb.getD k 0 = z at *
      obtain ⟨hz0, hz7, hz1⟩ := hdk
      obtain ⟨d, rfl⟩ : ∃ d : Nat, z = (d : Int) := ⟨z.toNat, by omega⟩
      have q0 : (0 : Int) ≤ (k : Int) := by omega
      have q1 : (k : Int) < (mb.length : Int) := by omega
      have q2 : IntKind.i64.wrap ((k : Int) + 1) = (k : Int) + 1 := wrapSm _ (by omega) (by omega)
      by_cases hdi : (d : Int) = id
      · have HS2 := hide (unhide HSk hdi)
        have h3 : decide ((d : Int) = id) = true := decide_eq_true hdi
        have h4 : ((d : Int) == id) = true := by rw [hdi]; simp
        have h5 : ((d : Int) != id) = false := by simp [bne, h4]
        clear hz1 HNe HSk hdi
        go_wp2_with fail
        refine ⟨⟨k + 1, sv, l, by omega, by go_num, by omega, XR, NR, hide (by rw [unhide HS2]; exact unhide LR), TR⟩, ?_⟩
        simp [intOf] <;> omega
      · have HN2 := hide (unhide HNe hdi)
        obtain ⟨hz1, hz2⟩ := hz1 hdi
        rw [Int.toNat_natCast] at hz1 hz2
        obtain ⟨p, hp⟩ : ∃ p : Nat, nx.getD d 0 = (p : Int) + 1 := ⟨(nx.getD d 0 - 1).toNat, by omega⟩
        have hpl : p ≤ lg.length := by omega
        have HC := hide (unhide HNw wr sv d p (unhide TW) (unhide XR) (by omega) hp hpl)
        have HT1 := hide (fun ev => tell_one id tm cm lg nx d p ev hp)
        have h3 : decide ((d : Int) = id) = false := decide_eq_false hdi
        have h4 : ((d : Int) == id) = false := by rw [beq_eq_false_iff_ne]; exact hdi
        have h5 : ((d : Int) != id) = true := by simp [bne, h4]
        clear hz1 hz2 hp HNe HSk
        go_wp2_with fail
        refine (unhide HC).mono ?_
        rintro e w3 ⟨a5, c5, rfl, hO5, hb3⟩
        have X3 := (unhide XR).below hb3
        have HC2 := hide (send_any b w1.heap.size id tm 3 0 (d : Int) 0 (p : Int) (termP lg p) cm false a5 (lg.drop p).length c5 (lg.drop p) [.int .i64 id, .int .i64 tm, .int .i64 vo, .slice la lg.length lc, .slice sa st.length sc, .int .i64 ro, .slice va vs.length vc, .slice na nx.length nc, .slice ma mt.length mc, .int .i64 cm, .int .i64 el, .int .i64 wt, .bool up, sv] sv l wr w3 X3 rfl rfl rfl hvb hrs (unhide NR) hb3 hO5 (by omega))
        have HB3 := hide hb3
        clear hO5 hb3 X3 HC x0
        generalize termP lg p = tp at *
        generalize hdn : (lg.drop p).length = dn at *
        have HDN := hide hdn
        clear hdn
        go_wp2_with fail
        refine (unhide HC2).mono ?_
        rintro e w4 ⟨⟨v9, rfl⟩, v', hX4, hN4, hT4⟩
        simp only [List.set_cons_succ, List.set_cons_zero] at hX4
        have X4 := hide hX4
        have N4 := hide hN4
        have T4 := hide (((unhide TR).trans (T' := fun _ => False) (Touch.ofBelow (unhide HB3)) (fun _ _ e => e.elim)).trans hT4 (fun j hj e => by rcases e with e | e <;> omega))
        clear hX4 hN4 hT4 HC2 HB3
        go_wp2_with fail
        refine ⟨⟨k + 1, v', _, by omega, by go_num, ?_, X4, N4, hide ?_, T4⟩, ?_⟩
        · simp; omega
        · rw [List.map_append, unhide LR, unhide HN2, List.map_cons, List.map_nil]
          congr 2
          exact (unhide HT1 _)
        · simp [intOf] <;> omega
    · obtain rfl : k = mb.length := by omega
      have q1 : ¬ (mb.length : Int) < (mb.length : Int) := by omega
      have h := unhide LR
      rw [List.take_length] at h
      have HL := hide h
      clear h LR
      go_wp2_with fail
      go_end0
      first
        | exact ⟨⟨_, rfl⟩, sv, l, unhide XR, (unhide NR).down hs1, unhide HL, unhide TW⟩
        | exact ⟨⟨_, rfl⟩, sv, unhide XR, l, (unhide NR).down hs1, unhide HL, unhide TW⟩
end Go.Proofs.Ytljolldacpkeeaa
