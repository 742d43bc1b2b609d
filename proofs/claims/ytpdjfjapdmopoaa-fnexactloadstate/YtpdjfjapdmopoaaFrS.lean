/- spec.l02Frame, walked. -/
import Derived.Test.YtpdjfjapdmopoaaFr
namespace Go.Proofs.Ytpdjfjapdmopoaa
open Go.ChangeShapes Go.WideShapes Go.ChangeAt Go.RowKit fnExactCheck32
set_option linter.unusedVariables false

theorem news_bytes {w : World} {c off : Nat} {l : List Int} (hc : ∀ i, i < l.length → w.cell? ⟨c, off + i, none⟩ = some (.int .u8 (l.getD i 0))) : ∀ j u, (l.map (Value.int .u8))[j]? = some u → w.cell? ((⟨c, off, none⟩ : Addr).add j) = some u := fun j u hu => by
  have hadd : (⟨c, off, none⟩ : Addr).add j = ⟨c, off + j, none⟩ := by unfold Addr.add; split <;> simp_all
  rw [List.getElem?_map] at hu
  rw [hadd]
  by_cases hj : j < l.length
  · rw [hc j hj]
    rw [List.getElem?_eq_getElem hj] at hu
    rw [List.getD_eq_getElem?_getD, List.getElem?_eq_getElem hj]
    simpa using hu
  · rw [List.getElem?_eq_none (by omega)] at hu; cases hu

set_option maxRecDepth 100000 in
set_option maxHeartbeats 1000000 in
theorem l02Frame_any (c off cap : Nat) (l : List Int) (w : World) (hc : c < w.heap.size) (hcell : ∀ i, i < l.length → w.cell? ⟨c, off + i, none⟩ = some (.int .u8 (l.getD i 0))) (hr : ∀ i, 0 ≤ l.getD i 0 ∧ l.getD i 0 ≤ 255) (h0 : 0 < l.length) (h1 : l.length ≤ 200) :
    Calls Try.prog 74 #[.slice (some ⟨c, off, none⟩) l.length cap] w fun e w' => ∃ v', e = .returned v' ∧ OwnB w.heap.size w' v' (frameL l) ∧ Below w.heap.size w w' := by
  obtain ⟨i0, hi, hz0, hz1, hz2⟩ := info_parts info5
  have HC := hide hcell
  have HR := hide hr
  have hs := sumF_range l hr
  have HE2 : Hid (encN (l.length : Int) 2 = [(l.length : Int) / 256 % 256, (l.length : Int) % 256]) := hide (by simp [encN])
  clear hcell hr
  go_enter Try.func74, Try.ntmps74
  go_wp2_with fail
  refine (l02Two_any l.length w (by omega) (by omega)).mono ?_
  rintro e w1 ⟨rfl, rfl⟩
  have B1 := hide ((Below.refl w.heap.size w).alloc (Nat.le_refl _) (.cells #[.int .u8 ((l.length : Int) / 256 % 256), .int .u8 ((l.length : Int) % 256)] 5))
  have H1 : Hid ((w.alloc (.cells #[.int .u8 ((l.length : Int) / 256 % 256), .int .u8 ((l.length : Int) % 256)] 5)).heap[w.heap.size]? = some (.cells #[.int .u8 ((l.length : Int) / 256 % 256), .int .u8 ((l.length : Int) % 256)] 5 (0, 0))) := hide (heap_new rfl)
  have hz : w.heap.size < (w.alloc (.cells #[.int .u8 ((l.length : Int) / 256 % 256), .int .u8 ((l.length : Int) % 256)] 5)).heap.size := by simp
  generalize w.alloc (.cells #[.int .u8 ((l.length : Int) / 256 % 256), .int .u8 ((l.length : Int) % 256)] 5) = w1 at *
  go_wp2_with (first
    | (at_builtin; refine wpList_append_lies _ rfl _ _ _ rfl (w.heap.size + 1) 5 i0 _ 1 1 Try.underlying66 hi hz0 hz1 hz2 rfl (by omega) (.slice (some ⟨w1.heap.size, 0, none⟩) 0 0) 0 [] rfl (own_empty w1 (w.heap.size + 1) w1.heap.size rfl (by omega)).1 ⟨w.heap.size, 0, none⟩ 2 2 [_, _] rfl rfl (World.news_of_block (cs := #[_, _]) (t := 5) (fr := (0, 0)) ((heap_old hz).trans (unhide H1))) (by simp [Value.oneCell']) (by omega) (by unfold maxLen; omega) (by omega) (by simp; omega) _ rfl ?_; intro g2 cap2 w2 hown2 hgrow2 hat2 hlt2; have b2 : Below (w.heap.size + 1) w1 w2 := ((Below.refl (w.heap.size + 1) w1).alloc (by omega) _).grown hgrow2 (by simp; omega) (fun r hr => by simp [Value.ownBlock] at hr; omega); have B2 := hide ((unhide B1).trans (b2.mono (by omega))); have O2 := hide hown2; have H2 := hide ((b2.block w.heap.size (by omega)).trans (unhide H1)); have z2 := b2.size; clear hown2 hgrow2 hat2 hlt2 b2)
    | (at_builtin; refine wpList_append_lies _ rfl _ _ _ rfl (w.heap.size + 1) 5 i0 _ 1 1 Try.underlying66 hi hz0 hz1 hz2 rfl (by omega) (.slice (some ⟨g2, 0, none⟩) (0 + 2) cap2) (0 + 2) _ rfl (unhide O2) ⟨c, off, none⟩ l.length cap (l.map (Value.int .u8)) rfl (by simp) (news_bytes (fun i hi => ((unhide B2).cell (p := ⟨c, off + i, none⟩) hc).trans (unhide HC i hi))) (by simp [Value.oneCell']) h0 (by unfold maxLen; omega) (by omega) (by omega) _ rfl ?_; intro g3 cap3 w3 hown3 hgrow3 hat3 hlt3; have b3 : Below (w.heap.size + 1) w2 w3 := (Below.refl (w.heap.size + 1) w2).grown hgrow3 (by omega) (fun r hr => ((unhide O2).lt r hr).1); have B3 := hide ((unhide B2).trans (b3.mono (by omega))); have O3 := hide hown3; have H3 := hide ((b3.block w.heap.size (by omega)).trans (unhide H2)); have z3 := b3.size; clear hown3 hgrow3 hat3 hlt3 b3))
  have OB3 : Hid (OwnB (w.heap.size + 1) w3 (.slice (some ⟨g3, 0, none⟩) (2 + l.length) cap3) (encN (l.length : Int) 2 ++ l)) := hide (by
    have h := unhide O3
    have hn : (encN (l.length : Int) 2 ++ l).length = 0 + 2 + l.length := by simp [encN]; omega
    refine ⟨?_, range_append (encN_range _ _) (unhide HR)⟩
    rw [hn, unhide HE2]
    have e : (2 + l.length) = 0 + 2 + l.length := by omega
    rw [e]
    simpa using h)
  clear O2 O3 H2 B2
  have HSM := hide (show sumF l = ((crc (encN (l.length : Int) 2 ++ l) (encN (l.length : Int) 2 ++ l).length ^^^ 4294967295 : Nat) : Int) by
    unfold sumF crcV; rw [if_neg (by simp [encN]; omega)])
  have hl2 : (encN (l.length : Int) 2 ++ l).length ≤ 65536 := by simp [encN]; omega
  refine (l01Check_any _ (encN (l.length : Int) 2 ++ l) w3 (unhide OB3).bytes hl2).mono ?_
  rintro e w3' ⟨rfl, hw'⟩
  have hw2 := hw'.symm
  clear hw'
  subst hw2
  rw [← unhide HSM]
  clear OB3
  go_wp2_with fail
  refine (l02Four_any (sumF l) w3 hs.1 hs.2).mono ?_
  rintro e w4 ⟨rfl, hw'⟩
  have F4 := hide (heap_new (o := .cells #[.int .u8 (sumF l / 16777216 % 256), .int .u8 (sumF l / 65536 % 256), .int .u8 (sumF l / 256 % 256), .int .u8 (sumF l % 256)] 5) (w := w3) (k := w3.heap.size) rfl)
  have H4 := hide ((heap_old (o := .cells #[.int .u8 (sumF l / 16777216 % 256), .int .u8 (sumF l / 65536 % 256), .int .u8 (sumF l / 256 % 256), .int .u8 (sumF l % 256)] 5) (w := w3) (k := w.heap.size) (by omega)).trans (unhide H3))
  have B4 := hide ((unhide B3).alloc (unhide B3).size (.cells #[.int .u8 (sumF l / 16777216 % 256), .int .u8 (sumF l / 65536 % 256), .int .u8 (sumF l / 256 % 256), .int .u8 (sumF l % 256)] 5))
  have HE4 : Hid (encN (sumF l) 4 = [sumF l / 16777216 % 256, sumF l / 65536 % 256, sumF l / 256 % 256, sumF l % 256]) := hide (by simp [encN])
  rw [← hw'] at F4 H4 B4
  clear hw' B3 H3
  have hz4 := (unhide B4).size
  go_wp2_with (first
    | (at_builtin; refine wpList_append_lies _ rfl _ _ _ rfl w.heap.size 5 i0 _ 1 1 Try.underlying66 hi hz0 hz1 hz2 rfl (by omega) (.slice (some ⟨w.heap.size, 0, none⟩) 2 2) 2 _ rfl (own_lit (unhide H4) (Nat.le_refl _) rfl (by unfold maxLen; omega)) ⟨w3.heap.size, 0, none⟩ 4 4 [_, _, _, _] rfl rfl (World.news_of_block (cs := #[_, _, _, _]) (t := 5) (fr := (0, 0)) (unhide F4)) (by simp [Value.oneCell']) (by omega) (by unfold maxLen; omega) (by omega) (by omega) _ rfl ?_; intro g5 cap5 w5 hown5 hgrow5 hat5 hlt5; have B5 := hide ((unhide B4).grown hgrow5 hz4 (fun r hr => by simp [Value.ownBlock] at hr; omega)); have O5 := hide hown5; have z5 := (unhide B5).size; clear hown5 hgrow5 hat5 hlt5)
    | (at_builtin; refine wpList_append_lies _ rfl _ _ _ rfl w.heap.size 5 i0 _ 1 1 Try.underlying66 hi hz0 hz1 hz2 rfl (by omega) (.slice (some ⟨g5, 0, none⟩) (2 + 4) cap5) (2 + 4) _ rfl (unhide O5) ⟨c, off, none⟩ l.length cap (l.map (Value.int .u8)) rfl (by simp) (news_bytes (fun i hi => ((unhide B5).cell (p := ⟨c, off + i, none⟩) hc).trans (unhide HC i hi))) (by simp [Value.oneCell']) h0 (by unfold maxLen; omega) (by omega) (by omega) _ rfl ?_; intro g6 cap6 w6 hown6 hgrow6 hat6 hlt6; have B6 := hide ((unhide B5).grown hgrow6 z5 (fun r hr => ((unhide O5).lt r hr).1)); have O6 := hide hown6; clear hown6 hgrow6 hat6 hlt6))
  go_ret
  refine ⟨.slice (some ⟨g6, 0, none⟩) (2 + 4 + l.length) cap6, rfl, ⟨?_, ?_⟩, unhide B6⟩
  · have h := unhide O6
    have hn : (frameL l).length = 2 + 4 + l.length := by simp [frameL, encN]; omega
    rw [hn]
    have e : (frameL l).map (Value.int .u8) = #[Value.int .u8 ((l.length : Int) / 256 % 256), .int .u8 ((l.length : Int) % 256)].toList ++ [.int .u8 (sumF l / 16777216 % 256), .int .u8 (sumF l / 65536 % 256), .int .u8 (sumF l / 256 % 256), .int .u8 (sumF l % 256)] ++ l.map (Value.int .u8) := by
      unfold frameL; rw [unhide HE2, unhide HE4]; simp
    rw [e]
    exact h
  · unfold frameL
    exact range_append (range_append (encN_range _ _) (encN_range _ _)) (unhide HR)

end Go.Proofs.Ytpdjfjapdmopoaa
