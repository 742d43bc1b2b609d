/- The program's side of growth: growthWay, Contains, turnsOf, climb, fold. -/
import Derived.Test.YtnaoccndghnmpaaDoorMkX
import Derived.Test.YtnaoccndghnmpaaDoorConS
import Derived.Deep.QuietTactic
import Derived.BigQuiet
import Derived.Deep.Cut
namespace Go.Proofs.YtnaoccndghnmpaaDoor.Sha
open Go.ChangeShapes Go.WideShapes Go.ChangeAt Go.RowKit
set_option linter.unusedVariables false
set_option linter.unusedSimpArgs false

/-- The value is a slice that holds these sides. -/
def Sides (w : World) (v : Value) (l : List Int) : Prop :=
  ∃ a cap, v = .slice a l.length cap ∧ l.length ≤ cap ∧ cap ≤ maxLen ∧ (l.length = 0 ∨ ∃ b off, a = some ⟨b, off, none⟩ ∧ b < w.heap.size ∧ ∀ i, i < l.length → w.cell? ⟨b, off + i, none⟩ = some (.int .i64 (l.getD i 0)))
theorem Sides.below {w w' : World} {v : Value} {l : List Int} (h : Sides w v l) (hb : Below w.heap.size w w') : Sides w' v l := by
  obtain ⟨a, cap, hv, hn, hm, hc⟩ := h
  refine ⟨a, cap, hv, hn, hm, ?_⟩
  rcases hc with h0 | ⟨b, off, ha, hlt, hc⟩
  · exact .inl h0
  · exact .inr ⟨b, off, ha, Nat.lt_of_lt_of_le hlt hb.size, fun i hi => (hb.cell (p := ⟨b, off + i, none⟩) hlt).trans (hc i hi)⟩
theorem OwnW.sides {B : Nat} {w : World} {v : Value} {l : List Int} (h : OwnW B w v l) : Sides w v l := by
  rcases _root_.Go.Proofs.YtnaoccndghnmpaaDoor.own_shape h with ⟨rfl, h0⟩ | ⟨g, cap, rfl, hb, hlt, hn, hm⟩
  · obtain rfl := List.eq_nil_of_length_eq_zero h0
    exact ⟨none, 0, rfl, Nat.le_refl _, by unfold maxLen; simp, .inl rfl⟩
  · exact ⟨_, _, rfl, hn, hm, .inr ⟨g, 0, rfl, hlt, fun i hi => by rw [Nat.zero_add]; exact h.cell i hi⟩⟩
set_option maxRecDepth 100000 in
set_option maxHeartbeats 2000000 in
theorem growthWay_any (m n : Nat) (w : World) (h1 : 1 ≤ m) (h2 : m ≤ n) (h3 : n ≤ 64) :
    Calls Tryd.prog 47 #[.int .i64 m, .int .i64 n] w fun e w' => ∃ v, e = .returned v ∧ Sides w' v (gwV m n) ∧ Below w.heap.size w w' := by
  have HW := hide (wayUp_any n (m - 1) w (by omega) h3 (by omega))
  have HG := hide (gw_way n m h1 h2 h3)
  have hwl := way_len n (m - 1) (by omega)
  generalize wayV (m - 1) n = way at *
  obtain ⟨m1, hm1⟩ : ∃ q : Nat, q = m - 1 := ⟨_, rfl⟩
  have k1 : (m : Int) - 1 = (m1 : Int) := by omega
  rw [← hm1] at HW
  clear hm1
  go_enter Tryd.func47, Tryd.ntmps47
  go_wp2_with fail
  refine (unhide HW).mono ?_
  rintro e w1 ⟨v, rfl, hO1, hb1⟩
  have B1 := hide hb1
  have S1 := hide (OwnW.sides hO1)
  clear hO1 hb1
  go_wp2_with fail
  go_loop [5] (fun wv => ∃ (l : List Int), Sides w1 wv l ∧ l.length ≤ way.length ∧ l.dropWhile (fun s => s == 0) = gwV m n) (fun wv => match wv with | .slice _ k _ => k | _ => 0)
  case atStart => exact ⟨way, unhide S1, Nat.le_refl _, unhide HG⟩
  case round =>
    obtain ⟨l, ⟨a, cap, rfl, hn, hm, hc⟩, hll, hd⟩ := hrel
    unfold maxLen at hm
    cases l with
    | nil =>
      have R : Hid (gwV m n = []) := hide (by rw [← hd]; rfl)
      clear hd hc
      simp only [List.length_nil]
      go_wp2_with fail
      go_ret
      refine ⟨_, rfl, ?_, unhide B1⟩
      rw [unhide R]
      exact ⟨a, cap, rfl, Nat.zero_le _, by unfold maxLen; omega, .inl rfl⟩
    | cons x r =>
      have hl0 : (x :: r).length = r.length + 1 := rfl
      rw [hl0] at hn hll hc ⊢
      obtain ⟨b, off, rfl, hbl, hcl⟩ : ∃ b off, a = some ⟨b, off, none⟩ ∧ b < w1.heap.size ∧ ∀ i, i < r.length + 1 → w1.cell? ⟨b, off + i, none⟩ = some (.int .i64 ((x :: r).getD i 0)) := by
        rcases hc with h0 | h0
        · omega
        · exact h0
      have c0 : w1.cell? ⟨b, off, none⟩ = some (.int .i64 x) := by simpa using hcl 0 (by omega)
      have HC := hide hcl
      have HD := hide hd
      have hrp : (0 : Int) < ((r.length + 1 : Nat) : Int) := by omega
      clear hcl hc hd
      by_cases hx : x = 0
      · have HD2 : Hid (r.dropWhile (fun s => s == 0) = gwV m n) := hide (by
          have := unhide HD; rw [List.dropWhile_cons, if_pos (by simp [hx])] at this; exact this)
        subst hx
        have k2 : (1 : Int) ≤ ((r.length + 1 : Nat) : Int) := by omega
        have k3 : (1 : Int) ≤ (cap : Int) := by omega
        go_wp2_with fail
        refine ⟨⟨r, ⟨_, _, rfl, by omega, by unfold maxLen; omega, ?_⟩, by omega, unhide HD2⟩, ?_⟩
        · by_cases hr0 : r.length = 0
          · exact .inl hr0
          · refine .inr ⟨b, off + 1, by rw [if_neg (by omega)], hbl, fun i hi => ?_⟩
            have := unhide HC (i + 1) (by omega)
            rw [show off + 1 + i = off + (i + 1) by omega, this]; rfl
        · show r.length < r.length + 1
          omega
      · have R : Hid (x :: r = gwV m n) := hide (by
          have := unhide HD; rw [List.dropWhile_cons, if_neg (by simp [hx])] at this; exact this)
        go_wp2_with fail
        go_ret
        refine ⟨_, rfl, ?_, unhide B1⟩
        rw [← unhide R]
        exact ⟨_, cap, rfl, by simp; omega, by unfold maxLen; omega, .inr ⟨b, off, rfl, hbl, fun i hi => unhide HC i (by simpa using hi)⟩⟩

set_option maxRecDepth 100000 in
set_option maxHeartbeats 1000000 in
theorem indexSide_any (v : Value) (l : List Int) (w : World) (h : Sides w v l) (hl : l.length ≤ 64) :
    Calls Tryd.prog 79 #[v, .int .i64 0] w fun e w' => ∃ r : Int, e = .returned (.int .i64 r) ∧ (0 ≤ r ↔ (0 : Int) ∈ l) ∧ w' = w := by
  obtain ⟨a, cap, rfl, hn, hm, hc⟩ := h
  have HC := hide hc
  clear hc
  go_enter Tryd.func79, Tryd.ntmps79
  go_wp2_with fail
  go_loop [8] (fun i => ∃ k : Nat, k ≤ l.length ∧ i = .int .i64 k ∧ ∀ j, j < k → l.getD j 0 ≠ 0) (fun i => l.length - (intOf i).toNat)
  case atStart => exact ⟨0, Nat.zero_le _, rfl, fun j hj => by omega⟩
  case round =>
    obtain ⟨k, hk, rfl, hgo⟩ := hrel
    have HGO := hide hgo
    clear hgo
    by_cases hlt : k < l.length
    · obtain ⟨b, off, rfl, hbl, hsrc⟩ : ∃ b off, a = some ⟨b, off, none⟩ ∧ b < w.heap.size ∧ ∀ i, i < l.length → w.cell? ⟨b, off + i, none⟩ = some (.int .i64 (l.getD i 0)) := by
        rcases unhide HC with h0 | h1
        · omega
        · exact h1
      have c0 := hsrc k hlt
      have hk0 : (0 : Int) ≤ (k : Int) := by omega
      have hk1 : (k : Int) < (l.length : Int) := by omega
      have HM : Hid (l.getD k 0 ∈ l) := hide (by rw [List.getD_eq_getElem?_getD, List.getElem?_eq_getElem hlt]; exact List.getElem_mem hlt)
      generalize htk : l.getD k 0 = t at *
      have HTK := hide htk
      clear htk hsrc
      by_cases ht : t = 0
      · subst ht
        go_wp2_with fail
        go_ret
        exact ⟨_, rfl, ⟨fun _ => unhide HM, fun _ => hk0⟩, rfl⟩
      · have ht2 : ((0 : Int) == t) = false := beq_eq_false_iff_ne.2 (fun e => ht e.symm)
        go_wp2_with fail
        refine ⟨⟨k + 1, by omega, by go_num, fun j hj => ?_⟩, ?_⟩
        · by_cases e : j = k
          · subst e; rw [unhide HTK]; exact ht
          · exact unhide HGO j (by omega)
        · simp [intOf]; omega
    · obtain rfl : k = l.length := by omega
      have HA : Hid (¬ (0 : Int) ∈ l) := hide (fun hm => by
        obtain ⟨j, hj⟩ := List.getElem?_of_mem hm
        have hjl := (List.getElem?_eq_some_iff.1 hj).1
        have := unhide HGO j hjl
        rw [List.getD_eq_getElem?_getD, hj] at this
        exact this rfl)
      go_wp2_with fail
      go_ret
      exact ⟨_, rfl, ⟨fun h => by omega, fun h => absurd h (unhide HA)⟩, rfl⟩
set_option maxRecDepth 100000 in
theorem containsSide_any (v : Value) (l : List Int) (w : World) (h : Sides w v l) (hl : l.length ≤ 64) :
    Calls Tryd.prog 48 #[v, .int .i64 0] w fun e w' => e = .returned (.bool (decide ((0 : Int) ∈ l))) ∧ w' = w := by
  have HI := hide (indexSide_any v l w h hl)
  obtain ⟨a, cap, rfl, hn, hm, hc⟩ := h
  clear hc
  go_enter Tryd.func48, Tryd.ntmps48
  go_wp2_with fail
  refine (unhide HI).mono ?_
  rintro e w' ⟨r, rfl, hr, hw⟩
  subst w'
  by_cases h0 : 0 ≤ r
  · have HA := hide (decide_eq_true (hr.1 h0))
    clear hr
    go_wp2_with fail
    go_ret
    exact ⟨ret_bool (by rw [unhide HA]), rfl⟩
  · have HA : Hid (decide ((0 : Int) ∈ l) = false) := hide (decide_eq_false (fun h => h0 (hr.2 h)))
    clear hr
    go_wp2_with fail
    go_ret
    exact ⟨ret_bool (by rw [unhide HA]; simp; omega), rfl⟩

set_option maxRecDepth 100000 in
set_option maxHeartbeats 2000000 in
theorem turnsOf2_any (wv : Value) (way : List Int) (pr : List ByteArray) (m b off cap : Nat) (w : World) (hw : Sides w wv way) (hpr : pr.length = m) (hs : SA w b off cap pr) (hwl : way.length ≤ 64) (hle : way.length ≤ pr.length) :
    Calls Tryd.prog 40 #[wv, .slice (some ⟨b, off, none⟩) m cap] w fun e w' => ∃ v, e = .returned v ∧ OwnT w.heap.size w' v (way.zip pr) ∧ Below w.heap.size w w' := by
  obtain ⟨i0, hi, hz0, hz1, hz2⟩ := info_parts infoT
  have hpm : m ≤ 9223372036854775807 := by have := hs.le; have := hs.mx; unfold maxLen at this; omega
  have hle2 : way.length ≤ m := by omega
  have HPR := hide hpr
  have HLE := hide hle
  obtain ⟨a, wc, rfl, hn, hm, hc⟩ := hw
  have HC := hide hc
  have HS := hide hs
  clear hc hs hpr hle
  go_enter Tryd.func40, Tryd.ntmps40
  go_wp2_with fail
  go_loopw [5, 10] (fun ov i wr => ∃ k : Nat, k ≤ way.length ∧ i = .int .i64 k ∧ OwnT w.heap.size wr ov ((way.zip pr).take k) ∧ Below w.heap.size w wr) (fun _ i _ => way.length - (intOf i).toNat)
  case atStart => exact ⟨0, Nat.zero_le _, rfl, World.ownsRow_nil _ _ 60 2, Below.refl _ _⟩
  case round =>
    obtain ⟨k, hk, rfl, hO, hb⟩ := hrel
    by_cases hlt : k < way.length
    · obtain ⟨wb, wo, rfl, hbl, hsrc⟩ : ∃ b off, a = some ⟨b, off, none⟩ ∧ b < w.heap.size ∧ ∀ i, i < way.length → w.cell? ⟨b, off + i, none⟩ = some (.int .i64 (way.getD i 0)) := by
        rcases unhide HC with h0 | h1
        · omega
        · exact h1
      have c0 := (hb.cell (p := ⟨wb, wo + k, none⟩) hbl).trans (hsrc k hlt)
      have c1 := ((unhide HS).below hb).cell k (by rw [unhide HPR]; omega)
      have hk0 : (0 : Int) ≤ (k : Int) := by omega
      have hk1 : (k : Int) < (way.length : Int) := by omega
      have hk2 : (k : Int) < (m : Int) := by omega
      have HE := hide (zip_next (pr := pr) hlt (unhide HLE))
      have hl1 : ((way.zip pr).take k).length = k := by have := unhide HLE; simp; omega
      have HL1 := hide hl1
      have HO := hide hO
      have HB := hide hb
      have hbs := hb.size
      clear hO hb hl1 hsrc
      generalize (way.zip pr).take k = tk at *
      generalize way.getD k 0 = x at *
      generalize pr.getD k ByteArray.empty = y at *
      have HO1 := hide (show wr.ownsRow w.heap.size 60 2 u5 k (tk.flatMap tnC) by have := unhide HO; unfold OwnT at this; rw [unhide HL1] at this; exact this)
      go_wp2_with (at_builtin; refine wpList_append_lies _ rfl _ _ _ rfl w.heap.size 60 i0 _ 2 24 Tryd.underlying61 hi hz0 hz1 hz2 rfl (by omega) u5 k (tk.flatMap tnC) rfl (own_kept (T := fun _ => False) (unhide HO1) (Touch.ofBelow ((Below.refl wr.heap.size wr).alloc (Nat.le_refl _) (.cells #[.int .i64 x, .string y] 60))) (fun _ _ h => h)) ⟨wr.heap.size, 0, none⟩ 1 1 [_, _] rfl rfl (World.news_of_block (cs := #[_, _]) (t := 60) (fr := (0, 0)) (heap_alloc_new wr _)) (by simp [Value.oneCell']) (by omega) (by unfold maxLen; omega) (by omega) (by simp; omega) _ rfl ?_; intro g3 cap3 w3 hown3 hgrow3 hat3 hlt3; have R := hide (And.intro (OwnT.pushed (t := (x, y)) (by rw [unhide HL1]) hown3) (((unhide HB).alloc hbs (.cells #[.int .i64 x, .string y] 60)).grown hgrow3 (by simp; omega) (fun r hr => ((unhide HO1).lt r hr).1))); clear hown3 hgrow3 hat3 hlt3)
      refine ⟨⟨k + 1, by omega, by go_num, by rw [unhide HE]; exact (unhide R).1, (unhide R).2⟩, ?_⟩
      simp [intOf]; omega
    · obtain rfl : k = way.length := by omega
      have HE : Hid ((way.zip pr).take way.length = way.zip pr) := hide (List.take_of_length_le (by rw [List.length_zip]; omega))
      have R := hide (And.intro hO hb)
      rw [unhide HE] at R
      clear hO hb
      go_wp2_with fail
      go_ret
      exact ⟨_, rfl, (unhide R).1, (unhide R).2⟩

set_option maxRecDepth 100000 in
set_option maxHeartbeats 2000000 in
theorem climbG_any (a c : ByteArray) (s : Int) (x : ByteArray) (w : World) (ha : a.size = 32) (hc : c.size = 32) (hx : x.size = 32) (ht : Tab w) :
    Calls Tryd.prog 51 #[.agg #[.string a, .string c], .agg #[.int .i64 s, .string x]] w fun e w' => e = .returned (.agg #[.string (stepG (a, c) (s, x)).1, .string (stepG (a, c) (s, x)).2]) ∧ Below w.heap.size w w' := by
  have HT := hide ht
  have HH := hide (And.intro ha (And.intro hc hx))
  have B0 := hide ((((Below.refl w.heap.size w).alloc (Nat.le_refl _) (.cells #[.string a, .string c] 72)).alloc (by simp) (.cells #[.int .i64 s, .string x] 60)).alloc (by simp; omega) (.cells #[.string ⟨#[]⟩, .string ⟨#[]⟩] 72))
  have X2 := hide (((Blk.new w #[.string a, .string c] 72 w.heap.size rfl).alloc (.cells #[.int .i64 s, .string x] 60)).alloc (.cells #[.string ⟨#[]⟩, .string ⟨#[]⟩] 72))
  have X3 := hide ((Blk.new (w.alloc (.cells #[.string a, .string c] 72)) #[.int .i64 s, .string x] 60 (w.heap.size + 1) (by simp)).alloc (.cells #[.string ⟨#[]⟩, .string ⟨#[]⟩] 72))
  have X4 := hide (Blk.new ((w.alloc (.cells #[.string a, .string c] 72)).alloc (.cells #[.int .i64 s, .string x] 60)) #[.string ⟨#[]⟩, .string ⟨#[]⟩] 72 (w.heap.size + 1 + 1) (by simp))
  clear ht ha hc hx
  have HC := hide (fun h wx hh hx ht => climb_any h s x wx hh hx ht)
  generalize hBB : w.heap.size = BB at *
  have HBB := hide hBB
  have fin : ∀ (ra rc : ByteArray) (w5 : World), Blk w5 BB [.string ra, .string rc] → Blk w5 (BB + 1 + 1) [.string ⟨#[]⟩, .string ⟨#[]⟩] → Below BB w w5 →
      Blk ((w5.setCell ⟨BB + 1 + 1, 0, none⟩ (.string ra)).setCell ⟨BB + 1 + 1, 1, none⟩ (.string rc)) (BB + 1 + 1) [.string ra, .string rc] ∧ Below BB w ((w5.setCell ⟨BB + 1 + 1, 0, none⟩ (.string ra)).setCell ⟨BB + 1 + 1, 1, none⟩ (.string rc)) := fun ra rc w5 h1 h2 h3 =>
    ⟨(h2.set 0 (.string ra) (by simp)).set 1 (.string rc) (by simp), (h3.setCell (p := ⟨BB + 1 + 1, 0, none⟩) (by show BB ≤ BB + 1 + 1; omega) _).setCell (p := ⟨BB + 1 + 1, 1, none⟩) (by show BB ≤ BB + 1 + 1; omega) _⟩
  have FIN := hide fin
  clear fin
  -- the second half, from whatever the first field is by then
  have half2 : ∀ (ra : ByteArray) (w3 : World), Hid (Blk w3 BB [.string ra, .string c] ∧ Blk w3 (BB + 1) [.int .i64 s, .string x] ∧ Blk w3 (BB + 1 + 1) [.string ⟨#[]⟩, .string ⟨#[]⟩] ∧ Below BB w w3 ∧ BB ≤ w3.heap.size) → True := fun _ _ _ => trivial
  clear half2
  by_cases h0 : s = 0
  · have HV : Hid (stepG (a, c) (s, x) = (climbV a (s, x), climbV c (s, x))) := hide (by simp [stepG, h0])
    rw [unhide HV]
    have HX : Hid ((climbV a (s, x)).size = 32) := hide (climb_size (unhide HH).1 (unhide HH).2.2)
    generalize hA : climbV a (s, x) = ra at *
    generalize hCc : climbV c (s, x) = rc at *
    have HA := hide hA
    have HCc := hide hCc
    clear hA hCc
    subst h0
    go_enter Tryd.func51, Tryd.ntmps51
    go_upto_region 2 with fail
    have hB0s : BB ≤ (((w.alloc (.cells #[.string a, .string c] 72)).alloc (.cells #[.int .i64 0, .string x] 60)).alloc (.cells #[.string ⟨#[]⟩, .string ⟨#[]⟩] 72)).heap.size := by simp; omega
    generalize ((w.alloc (.cells #[.string a, .string c] 72)).alloc (.cells #[.int .i64 0, .string x] 60)).alloc (.cells #[.string ⟨#[]⟩, .string ⟨#[]⟩] 72) = w0 at *
    clear hBB
    have p0 := (unhide X2).cell 0 rfl
    have q0 := (unhide X3).cell 0 rfl
    have q1 := (unhide X3).cell 1 rfl
    go_wp2_with fail
    refine (unhide HC a w0 (unhide HH).1 (unhide HH).2.2 ((unhide HT).below (by rw [unhide HBB]; exact unhide B0))).mono ?_
    rintro e w1 ⟨rfl, hb1⟩
    rw [unhide HA]
    have B1 := hide ((unhide B0).trans (hb1.mono hB0s))
    have Y2 := hide ((unhide X2).below hb1)
    have Y3 := hide ((unhide X3).below hb1)
    have Y4 := hide ((unhide X4).below hb1)
    have hs1 := Nat.le_trans hB0s hb1.size
    clear hb1 p0 q0 q1
    have s0 := (unhide Y2).cell 0 rfl
    have g0 := (unhide Y2).fro 0
    have Z2 := hide ((unhide Y2).set 0 (.string ra) (by simp))
    have Z3 := hide ((unhide Y3).other (C := BB) 0 (.string ra) (by omega))
    have Z4 := hide ((unhide Y4).other (C := BB) 0 (.string ra) (by omega))
    have C2 := hide ((unhide B1).setCell (p := ⟨BB, 0, none⟩) (Nat.le_refl _) (.string ra))
    have hs2 : BB ≤ (w1.setCell ⟨BB, 0, none⟩ (.string ra)).heap.size := by simp; omega
    go_upto_region 3 with fail
    clear s0 g0
    generalize w1.setCell ⟨BB, 0, none⟩ (.string ra) = w2 at *
    have p1 := (unhide Z2).cell 1 rfl
    have q0 := (unhide Z3).cell 0 rfl
    have q1 := (unhide Z3).cell 1 rfl
    go_wp2_with fail
    refine (unhide HC c w2 (unhide HH).2.1 (unhide HH).2.2 ((unhide HT).below (by rw [unhide HBB]; exact unhide C2))).mono ?_
    rintro e w3 ⟨rfl, hb3⟩
    rw [unhide HCc]
    have B3 := hide ((unhide C2).trans (hb3.mono hs2))
    have V2 := hide ((unhide Z2).below hb3)
    have V4 := hide ((unhide Z4).below hb3)
    clear hb3 p1 q0 q1
    have s1 := (unhide V2).cell 1 rfl
    have g1 := (unhide V2).fro 1
    have U2 := hide ((unhide V2).set 1 (.string rc) (by simp))
    have U4 := hide ((unhide V4).other (C := BB) 1 (.string rc) (by omega))
    have B4 := hide ((unhide B3).setCell (p := ⟨BB, 1, none⟩) (Nat.le_refl _) (.string rc))
    go_upto_region 4 with fail
    clear s1 g1
    generalize w3.setCell ⟨BB, 1, none⟩ (.string rc) = w5 at *
    have t0 := (unhide U2).cell 0 rfl
    have t1 := (unhide U2).cell 1 rfl
    have r0 := (unhide U4).cell 0 rfl
    have r1 := (unhide U4).cell 1 rfl
    have f0 := (unhide U4).fro 0
    have f1 := (unhide U4).fro 1
    obtain ⟨F1, F2⟩ := unhide FIN ra rc w5 (unhide U2) (unhide U4) (unhide B4)
    have HF1 := hide F1
    have HF2 := hide F2
    clear F1 F2
    go_wp2_with fail
    generalize (w5.setCell ⟨BB + 1 + 1, 0, none⟩ (.string ra)).setCell ⟨BB + 1 + 1, 1, none⟩ (.string rc) = wf at *
    have z0 := (unhide HF1).cell 0 rfl
    have z1 := (unhide HF1).cell 1 rfl
    refine bodyPost_ret (v := .agg #[.string ra, .string rc]) (by simp [results, Tryd.results51, go_sem, z0, z1]) rfl ?_
    exact ⟨rfl, unhide HF2⟩
  · have HV : Hid (stepG (a, c) (s, x) = (a, climbV c (s, x))) := hide (by simp [stepG, h0])
    rw [unhide HV]
    generalize hCc : climbV c (s, x) = rc at *
    have HCc := hide hCc
    clear hCc
    have h00 : (s == 0) = false := beq_eq_false_iff_ne.2 h0
    go_enter Tryd.func51, Tryd.ntmps51
    go_upto_region 3 with fail
    have hB0s : BB ≤ (((w.alloc (.cells #[.string a, .string c] 72)).alloc (.cells #[.int .i64 s, .string x] 60)).alloc (.cells #[.string ⟨#[]⟩, .string ⟨#[]⟩] 72)).heap.size := by simp; omega
    generalize ((w.alloc (.cells #[.string a, .string c] 72)).alloc (.cells #[.int .i64 s, .string x] 60)).alloc (.cells #[.string ⟨#[]⟩, .string ⟨#[]⟩] 72) = w2 at *
    clear hBB
    have p1 := (unhide X2).cell 1 rfl
    have q0 := (unhide X3).cell 0 rfl
    have q1 := (unhide X3).cell 1 rfl
    go_wp2_with fail
    refine (unhide HC c w2 (unhide HH).2.1 (unhide HH).2.2 ((unhide HT).below (by rw [unhide HBB]; exact unhide B0))).mono ?_
    rintro e w3 ⟨rfl, hb3⟩
    rw [unhide HCc]
    have B3 := hide ((unhide B0).trans (hb3.mono hB0s))
    have V2 := hide ((unhide X2).below hb3)
    have V4 := hide ((unhide X4).below hb3)
    clear hb3 p1 q0 q1
    have s1 := (unhide V2).cell 1 rfl
    have g1 := (unhide V2).fro 1
    have U2 := hide ((unhide V2).set 1 (.string rc) (by simp))
    have U4 := hide ((unhide V4).other (C := BB) 1 (.string rc) (by omega))
    have B4 := hide ((unhide B3).setCell (p := ⟨BB, 1, none⟩) (Nat.le_refl _) (.string rc))
    go_upto_region 4 with fail
    clear s1 g1
    generalize w3.setCell ⟨BB, 1, none⟩ (.string rc) = w5 at *
    have t0 := (unhide U2).cell 0 rfl
    have t1 := (unhide U2).cell 1 rfl
    have r0 := (unhide U4).cell 0 rfl
    have r1 := (unhide U4).cell 1 rfl
    have f0 := (unhide U4).fro 0
    have f1 := (unhide U4).fro 1
    obtain ⟨F1, F2⟩ := unhide FIN a rc w5 (unhide U2) (unhide U4) (unhide B4)
    have HF1 := hide F1
    have HF2 := hide F2
    clear F1 F2
    go_wp2_with fail
    generalize (w5.setCell ⟨BB + 1 + 1, 0, none⟩ (.string a)).setCell ⟨BB + 1 + 1, 1, none⟩ (.string rc) = wf at *
    have z0 := (unhide HF1).cell 0 rfl
    have z1 := (unhide HF1).cell 1 rfl
    refine bodyPost_ret (v := .agg #[.string a, .string rc]) (by simp [results, Tryd.results51, go_sem, z0, z1]) rfl ?_
    exact ⟨rfl, unhide HF2⟩
end Go.Proofs.YtnaoccndghnmpaaDoor.Sha
