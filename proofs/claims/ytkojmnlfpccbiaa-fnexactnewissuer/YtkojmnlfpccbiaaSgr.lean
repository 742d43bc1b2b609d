/- Signers: the laws' sz, to, eq; both SignerOK; one that came in opened. -/
import Derived.Test.YtkojmnlfpccbiaaBo
import Derived.Test.YtkojmnlfpccbiaaHf
namespace Go.Proofs.Ytkojmnlfpccbiaa
open Go.ChangeShapes Go.WideShapes Go.ChangeAt Go.RowKit Go.Deep
set_option linter.unusedVariables false

def sgrR (L : Int) (n m : Nat) : Int := if (n : Int) + (m : Int) ≤ L then L - n - m else -1
theorem sgrR_cases (L : Int) (n m : Nat) : sgrR L n m = -1 ∨ (0 ≤ sgrR L n m ∧ (n : Int) + (m : Int) ≤ L) := by
  unfold sgrR; split
  · right; omega
  · left; rfl
set_option maxRecDepth 100000 in
set_option maxHeartbeats 1000000 in
theorem szSigner_any (s : ByteArray) (a : Option Addr) (n cap : Nat) (L : Int) (w : World) (hs : s.size ≤ maxLen) (hn : n ≤ maxLen) (h0 : 0 ≤ L) (h1 : L ≤ 1048576) :
    Calls Try.prog 20 #[.agg #[.string s, .slice a n cap], .int .i64 L] w fun e w' => e = .returned (.int .i64 (sgrR L s.size n)) ∧ Below w.heap.size w w' := by
  have B0 := hide ((Below.refl w.heap.size w).alloc (Nat.le_refl _) (.cells #[.string s, .slice a n cap] 34))
  have HN := hide hn
  unfold maxLen at hs hn
  by_cases h2 : (s.size : Int) ≤ L
  · have HB := hide (fun wx => szBoolS_any a n cap (L - s.size) wx (unhide HN) (by omega) (by omega))
    by_cases h3 : (n : Int) ≤ L - s.size
    · rw [if_pos h3] at HB
      have E : Hid (sgrR L s.size n = L - s.size - n) := hide (by unfold sgrR; rw [if_pos (by omega)])
      go_enter Try.func20, Try.ntmps20
      go_wp2_with fail
      refine (unhide HB _).mono ?_
      rintro e w9 ⟨rfl, hw9⟩
      subst w9
      go_wp2_with fail
      go_ret
      exact ⟨ret_int (unhide E).symm, unhide B0⟩
    · rw [if_neg h3] at HB
      have E : Hid (sgrR L s.size n = -1) := hide (by unfold sgrR; rw [if_neg (by omega)])
      go_enter Try.func20, Try.ntmps20
      go_wp2_with fail
      refine (unhide HB _).mono ?_
      rintro e w9 ⟨rfl, hw9⟩
      subst w9
      go_wp2_with fail
      go_ret
      exact ⟨ret_int (unhide E).symm, unhide B0⟩
  · have E : Hid (sgrR L s.size n = -1) := hide (by unfold sgrR; rw [if_neg (by omega)])
    have h4 : L - (s.size : Int) < 0 := by omega
    go_enter Try.func20, Try.ntmps20
    go_wp2_with fail
    go_ret
    exact ⟨ret_int (unhide E).symm, unhide B0⟩
theorem ownBo_down {B B' : Nat} {w : World} {v : Value} {l : List Bool} (h : OwnBo B w v l) (hB : B' ≤ B) : OwnBo B' w v l := by
  obtain ⟨hl, hc⟩ := h
  refine ⟨hl, ?_⟩
  rcases hc with hn | ⟨g, cap, cur, hv, hb, rest⟩
  · exact .inl hn
  · exact .inr ⟨g, cap, cur, hv, by omega, rest⟩
set_option maxRecDepth 100000 in
set_option maxHeartbeats 1000000 in
theorem toSigner_any (s : ByteArray) (v : Value) (l : List Bool) (w : World) (h : Bos w v l) (hs : l.length ≤ 1048576) :
    Calls Try.prog 25 #[.agg #[.string s, v]] w fun e w' => ∃ g, e = .returned (.agg #[.string s, .slice (some ⟨g, 0, none⟩) l.length l.length]) ∧ OwnBo w.heap.size w' (.slice (some ⟨g, 0, none⟩) l.length l.length) l ∧ Below w.heap.size w w' := by
  have HF := hide h
  obtain ⟨a, cap, rfl, hm, hc⟩ := h
  clear hc hm
  go_enter Try.func25, Try.ntmps25
  go_wp2_with fail
  have B3 := hide ((((Below.refl w.heap.size w).alloc (Nat.le_refl _) (.cells #[.string s, .slice a l.length cap] 34)).alloc (by simp) (.cells #[.string ⟨#[]⟩, .slice none 0 0] 24)).alloc (by simp; omega) (.cells #[.string s, .slice none 0 0] 24))
  have X3 := hide (Blk.new ((w.alloc (.cells #[.string s, .slice a l.length cap] 34)).alloc (.cells #[.string ⟨#[]⟩, .slice none 0 0] 24)) #[.string s, .slice none 0 0] 24 (w.heap.size + 1 + 1) (by simp))
  have Y3 := hide ((Blk.new (w.alloc (.cells #[.string s, .slice a l.length cap] 34)) #[.string ⟨#[]⟩, .slice none 0 0] 24 (w.heap.size + 1) (by simp)).alloc (.cells #[.string s, .slice none 0 0] 24))
  have Z3 : (((w.alloc (.cells #[.string s, .slice a l.length cap] 34)).alloc (.cells #[.string ⟨#[]⟩, .slice none 0 0] 24)).alloc (.cells #[.string s, .slice none 0 0] 24)).heap.size = w.heap.size + 3 := by simp
  generalize ((w.alloc (.cells #[.string s, .slice a l.length cap] 34)).alloc (.cells #[.string ⟨#[]⟩, .slice none 0 0] 24)).alloc (.cells #[.string s, .slice none 0 0] 24) = w3 at *
  refine (toBoolS_any _ l w3 ((unhide HF).below (unhide B3)) hs).mono ?_
  rintro e w4 ⟨rfl, hO, hl4, hb4⟩
  obtain ⟨v', hv'⟩ : ∃ v', v' = Value.slice (some ⟨w3.heap.size, 0, none⟩) l.length l.length := ⟨_, rfl⟩
  rw [← hv'] at hO
  have X4 := (unhide X3).below hb4
  have c0 := X4.cell 0 rfl
  have c1 := X4.cell 1 rfl
  have f1 := X4.fro 1
  have hlt := hO.lt
  have hz4 := hb4.size
  have HO5 : Hid (OwnBo w.heap.size (w4.setCell ⟨w.heap.size + 1 + 1, 1, none⟩ v') v' l) := hide (OwnBo.kept (T := fun k => k = w.heap.size + 1 + 1) (ownBo_down hO (by omega)) ((Touch.refl _ _).setCell _ _ (fun _ => rfl)) (fun k hk e => by have := (hlt k hk).1; omega))
  have HB5 := hide (((unhide B3).trans (hb4.mono (by omega))).setCell (p := ⟨w.heap.size + 1 + 1, 1, none⟩) (by simp; omega) v')
  have e0 : (w4.setCell ⟨w.heap.size + 1 + 1, 1, none⟩ v').cell? ⟨w.heap.size + 1 + 1, 0, none⟩ = some (.string s) := (World.cell?_setCell_other _ _ _ _ (by simp)).trans c0
  have e1 : (w4.setCell ⟨w.heap.size + 1 + 1, 1, none⟩ v').cell? ⟨w.heap.size + 1 + 1, 1, none⟩ = some v' := World.cell?_setCell_same _ _ _ c1
  have Y5 := ((unhide Y3).below hb4).other (C := w.heap.size + 1 + 1) 1 v' (by omega)
  have y0 := Y5.cell 0 rfl
  have y1 := Y5.cell 1 rfl
  have h0 := Y5.fro 0
  have h1 := Y5.fro 1
  have Y6 := hide ((Y5.set 0 (.string s) (by simp)).set 1 v' (by simp))
  have HO6 : Hid (OwnBo w.heap.size (((w4.setCell ⟨w.heap.size + 1 + 1, 1, none⟩ v').setCell ⟨w.heap.size + 1, 0, none⟩ (.string s)).setCell ⟨w.heap.size + 1, 1, none⟩ v') v' l) := hide (OwnBo.kept (T := fun k => k = w.heap.size + 1) (unhide HO5) (((Touch.refl (fun k => k = w.heap.size + 1) _).setCell ⟨w.heap.size + 1, 0, none⟩ _ (fun _ => rfl)).setCell ⟨w.heap.size + 1, 1, none⟩ _ (fun _ => rfl)) (fun k hk e => by have := (hlt k hk).1; omega))
  have HB6 := hide (((unhide HB5).setCell (p := ⟨w.heap.size + 1, 0, none⟩) (by simp) (.string s)).setCell (p := ⟨w.heap.size + 1, 1, none⟩) (by simp) v')
  clear X4 hO hb4 hlt X3 B3 Y5 Y3 HO5 HB5 Z3 hz4 hl4
  subst hv'
  generalize w3.heap.size = g at *
  go_wp2_with fail
  have z0 := (unhide Y6).cell 0 rfl
  have z1 := (unhide Y6).cell 1 rfl
  refine bodyPost_ret (v := .agg #[.string s, .slice (some ⟨g, 0, none⟩) l.length l.length]) (by simp [results, Try.results25, go_sem, z0, z1]) rfl ?_
  exact ⟨g, rfl, unhide HO6, unhide HB6⟩
set_option maxRecDepth 100000 in
set_option maxHeartbeats 1000000 in
theorem eqSigner_any (s : ByteArray) (v v2 : Value) (l : List Bool) (w : World) (h : Bos w v l) (h2 : Bos w v2 l) (hs : l.length ≤ 1048576) :
    Calls Try.prog 16 #[.agg #[.string s, v], .agg #[.string s, v2]] w fun e w' => e = .returned (.bool true) ∧ Below w.heap.size w w' := by
  have HF := hide h
  have HF2 := hide h2
  obtain ⟨a, cap, rfl, hm, hc⟩ := h
  obtain ⟨a2, cap2, rfl, hm2, hc2⟩ := h2
  clear hc hm hc2 hm2
  have B0 := hide (((Below.refl w.heap.size w).alloc (Nat.le_refl _) (.cells #[.string s, .slice a l.length cap] 24)).alloc (by simp) (.cells #[.string s, .slice a2 l.length cap2] 24))
  go_enter Try.func16, Try.ntmps16
  go_wp2_with fail
  generalize (w.alloc (.cells #[.string s, .slice a l.length cap] 24)).alloc (.cells #[.string s, .slice a2 l.length cap2] 24) = w0 at *
  refine (eqBoolS_any _ _ l w0 ((unhide HF).below (unhide B0)) ((unhide HF2).below (unhide B0)) hs).mono ?_
  rintro e w1 ⟨rfl, n, rfl⟩
  have B1 := hide (below_drewN (unhide B0) n)
  go_wp2_with fail
  go_ret
  exact ⟨rfl, unhide B1⟩
def sgrB (s : ByteArray) (n : Nat) : Bool := decide (s.size = 32) && decide (n = 4)
set_option maxRecDepth 100000 in
set_option maxHeartbeats 1000000 in
theorem implSignerOK_any (s : ByteArray) (a : Option Addr) (n cap : Nat) (w : World) (hs : s.size ≤ maxLen) (hn : n ≤ maxLen) :
    Calls Try.prog 37 #[.agg #[.string s, .slice a n cap]] w fun e w' => e = .returned (.bool (sgrB s n)) ∧ Below w.heap.size w w' := by
  have B0 := hide ((Below.refl w.heap.size w).alloc (Nat.le_refl _) (.cells #[.string s, .slice a n cap] 24))
  have HH := hide (fun wx => notHash_any s wx hs)
  unfold maxLen at hn
  by_cases h1 : s.size = 32
  · rw [show (!decide (s.size = 32)) = false by simp [h1]] at HH
    by_cases h2 : n = 4
    · subst h2
      have E : Hid (sgrB s 4 = true) := hide (by simp [sgrB, h1])
      clear h1 hs
      go_enter Try.func37, Try.ntmps37
      go_wp2_with fail
      refine (unhide HH _).mono ?_
      rintro e w9 ⟨rfl, hw9⟩
      subst w9
      go_wp2_with fail
      go_ret
      exact ⟨ret_bool (by rw [unhide E]), unhide B0⟩
    · have E : Hid (sgrB s n = false) := hide (by simp [sgrB, h2])
      have h3 : ¬ (n : Int) = 4 := by omega
      clear h1 hs h2
      go_enter Try.func37, Try.ntmps37
      go_wp2_with fail
      refine (unhide HH _).mono ?_
      rintro e w9 ⟨rfl, hw9⟩
      subst w9
      go_wp2_with fail
      go_ret
      exact ⟨ret_bool (by rw [unhide E]; simp [h3]), unhide B0⟩
  · rw [show (!decide (s.size = 32)) = true by simp [h1]] at HH
    have E : Hid (sgrB s n = false) := hide (by simp [sgrB, h1])
    clear h1 hs
    go_enter Try.func37, Try.ntmps37
    go_wp2_with fail
    refine (unhide HH _).mono ?_
    rintro e w9 ⟨rfl, hw9⟩
    subst w9
    go_wp2_with fail
    go_ret
    exact ⟨ret_bool (by rw [unhide E]), unhide B0⟩
set_option maxRecDepth 100000 in
set_option maxHeartbeats 1000000 in
theorem specSignerOK_any (s : ByteArray) (a : Option Addr) (n cap : Nat) (w : World) (hs : s.size ≤ maxLen) (hn : n ≤ maxLen) :
    Calls Try.prog 22 #[.agg #[.string s, .slice a n cap]] w fun e w' => e = .returned (.bool (sgrB s n)) ∧ Below w.heap.size w w' := by
  have B0 := hide ((Below.refl w.heap.size w).alloc (Nat.le_refl _) (.cells #[.string s, .slice a n cap] 24))
  unfold maxLen at hn hs
  by_cases h1 : s.size = 32
  · by_cases h2 : n = 4
    · subst h2
      have E : Hid (sgrB s 4 = true) := hide (by simp [sgrB, h1])
      have h4 : (s.size : Int) = 32 := by omega
      go_enter Try.func22, Try.ntmps22
      go_wp2_with fail
      go_ret
      exact ⟨ret_bool (by rw [unhide E]), unhide B0⟩
    · have E : Hid (sgrB s n = false) := hide (by simp [sgrB, h2])
      have h3 : ¬ (n : Int) = 4 := by omega
      have h4 : (s.size : Int) = 32 := by omega
      go_enter Try.func22, Try.ntmps22
      go_wp2_with fail
      go_ret
      exact ⟨ret_bool (by rw [unhide E]; simp [h3]), unhide B0⟩
  · have E : Hid (sgrB s n = false) := hide (by simp [sgrB, h1])
    have h4 : ¬ (s.size : Int) = 32 := by omega
    go_enter Try.func22, Try.ntmps22
    go_wp2_with fail
    go_ret
    exact ⟨ret_bool (by rw [unhide E]), unhide B0⟩
theorem array2s {α : Type} {cs : Array α} (h : cs.size = 2) : ∃ c0 c1, cs = #[c0, c1] := by
  obtain ⟨l⟩ := cs
  match l, h with
  | [c0, c1], _ => exact ⟨c0, c1, rfl⟩
set_option maxRecDepth 100000 in
theorem open_signer {H : Type} {enc : TypeId × Value → H} {W : World} {base b0 : Nat} {r : Reach} {held : Bool} {v : Value} {d : DataW H} {p : List MemPlace}
    (hv : Value.okWide Try.prog W r b0 34 v) (h : DataW.Trod enc Try.prog W base (fun _ => true) held 34 v d p) :
    ∃ (s : ByteArray) (u : Value) (l : List Bool), v = .agg #[.string s, u] ∧ Bos W u l ∧ s.size ≤ maxLen := by
  obtain ⟨cs, rfl, hsz⟩ := okWide_struct Try.underlying34 hv
  have hC : Try.prog.cellsOf 34 = 2 := by kernel_rfl
  obtain ⟨c0, c1, rfl⟩ := array2s (hsz.trans hC)
  obtain ⟨fuel, hf⟩ := h
  obtain ⟨xs, n, _, _, _, hlen, hfl⟩ := DataW.trod_struct Try.underlying34 hf
  have i9 : Try.prog.cellsOf 9 = 1 := by kernel_rfl
  have iS : Try.prog.cellsOf 22 = 1 := by kernel_rfl
  obtain ⟨y0, e0⟩ := get_some hlen (show 0 < 2 by omega)
  obtain ⟨y1, e1⟩ := get_some hlen (show 1 < 2 by omega)
  have g0 : DataW.trod enc Try.prog W base (fun _ => true) held n 9 [c0] = some y0 := by simpa [Value.cells, i9] using (hfl 0 _ rfl).trans e0
  have g1 : DataW.trod enc Try.prog W base (fun _ => true) held n 22 [c1] = some y1 := by simpa [Value.cells, iS] using (hfl 1 _ rfl).trans e1
  obtain ⟨a0, f0, _, q0⟩ := DataW.trod_string Try.underlying9 g0
  simp only [List.cons.injEq, and_true] at f0
  subst f0
  obtain ⟨l, h1⟩ := open_flags g1
  exact ⟨a0, c1, l, rfl, h1, q0⟩
end Go.Proofs.Ytkojmnlfpccbiaa
