/- Commands and entries: read back from their bytes, and bytes that are read are those of what was read. -/
import Derived.Test.YtmjbcepkfgfdmaaRdK
import Derived.Test.YtmjbcepkfgfdmaaRdEI
import Derived.Test.YtmjbcepkfgfdmaaCmdB
import Derived.Test.YtmjbcepkfgfdmaaEntB
namespace Go.Proofs.Ytmjbcepkfgfdmaa
open Go.ChangeShapes Go.WideShapes Go.ChangeAt Go.RowKit
set_option linter.unusedVariables false

theorem take_app {x r : List Int} {n : Nat} (h : x.length = n) : takeP n (some (x ++ r)) = (x, some r) := by
  subst h; simp [takeP]
theorem dec_enc1 (x : Int) (h0 : 0 ≤ x) (h1 : x < 256) : dec (encN x 1) = x := by simp [dec, decN, encN]; omega
theorem dec_enc2 (x : Int) (h0 : 0 ≤ x) (h1 : x < 65536) : dec (encN x 2) = x := by simp [dec, decN, encN]; omega
theorem dec_enc4 (x : Int) (h0 : 0 ≤ x) (h1 : x < 4294967296) : dec (encN x 4) = x := by simp [dec, decN, encN]; omega
theorem num_enc1 (x : Int) (r : List Int) (h0 : 0 ≤ x) (h1 : x < 256) : numP 1 (some (encN x 1 ++ r)) = (x, some r) := by
  unfold numP; rw [take_app (encN_len x 1)]; show (dec (encN x 1), _) = _; rw [dec_enc1 x h0 h1]
theorem num_enc2 (x : Int) (r : List Int) (h0 : 0 ≤ x) (h1 : x < 65536) : numP 2 (some (encN x 2 ++ r)) = (x, some r) := by
  unfold numP; rw [take_app (encN_len x 2)]; show (dec (encN x 2), _) = _; rw [dec_enc2 x h0 h1]
theorem num_enc4 (x : Int) (r : List Int) (h0 : 0 ≤ x) (h1 : x < 4294967296) : numP 4 (some (encN x 4 ++ r)) = (x, some r) := by
  unfold numP; rw [take_app (encN_len x 4)]; show (dec (encN x 4), _) = _; rw [dec_enc4 x h0 h1]
theorem nums_bytes (s : ByteArray) : strOfNums (bytesI s) = s := by
  obtain ⟨d⟩ := s
  unfold strOfNums bytesI
  congr 1
  apply Array.ext'
  have hid : ((fun n : Int => UInt8.ofNat n.toNat) ∘ fun c : UInt8 => (c.toNat : Int)) = id := by funext c; simp
  rw [List.map_map, hid]
  simp
theorem bytes_nums (l : List Int) (h : ∀ i, 0 ≤ l.getD i 0 ∧ l.getD i 0 ≤ 255) : bytesI (strOfNums l) = l := by
  unfold bytesI
  rw [strOfNums_data, List.map_map]
  apply List.ext_getElem?
  intro i
  rw [List.getElem?_map]
  by_cases hi : i < l.length
  · have := h i
    rw [List.getD_eq_getElem?_getD, List.getElem?_eq_getElem hi] at this
    rw [List.getElem?_eq_getElem hi]
    simp at this ⊢
    omega
  · rw [List.getElem?_eq_none (by omega)]; rfl
theorem text_enc (s : ByteArray) (r : List Int) (hs : s.size ≤ 255) : textP (some (((s.size : Int) :: bytesI s) ++ r)) = (bytesI s, some r) := by
  have e : ((s.size : Int) :: bytesI s) ++ r = encN (s.size : Int) 1 ++ (bytesI s ++ r) := by
    have : encN (s.size : Int) 1 = [(s.size : Int)] := by simp [encN]; omega
    rw [this]; simp
  rw [e]
  unfold textP
  rw [num_enc1 _ _ (by omega) (by omega)]
  show takeP ((s.size : Int)).toNat (some (bytesI s ++ r)) = _
  rw [Int.toNat_natCast]
  exact take_app (bytesI_len s)
theorem cmdP_bytes {k s q : Int} {key val : ByteArray} (h : cmdOK k s q key val = true) : cmdP (some (cmdBytes k s q key val)) = ((k, s, q, key, val), some []) := by
  obtain ⟨h1, h2, h3, h4, h5, h6, h7, h8⟩ := cmdOK_bounds h
  have e : cmdBytes k s q key val = encN k 1 ++ (encN s 2 ++ (encN q 2 ++ (((key.size : Int) :: bytesI key) ++ (((val.size : Int) :: bytesI val) ++ [])))) := by
    simp [cmdBytes, textsL]
  rw [e]
  unfold cmdP
  rw [num_enc1 _ _ (by omega) (by omega)]
  dsimp only
  rw [num_enc2 _ _ (by omega) (by omega)]
  dsimp only
  rw [num_enc2 _ _ (by omega) (by omega)]
  dsimp only
  rw [text_enc key _ (by omega)]
  dsimp only
  rw [text_enc val _ (by omega), nums_bytes, nums_bytes]
theorem entP_bytes {t k : Int} {d : ByteArray} (h : entOK t k d = true) : entP (some (entBytes t k d)) = ((t, k, d), some []) := by
  obtain ⟨h1, h2, h3, h4, h5⟩ := entOK_bounds h
  have e : entBytes t k d = encN t 4 ++ (encN k 1 ++ (((d.size : Int) :: bytesI d) ++ [])) := by
    simp [entBytes, textsL]
  rw [e]
  unfold entP
  rw [num_enc4 _ _ (by omega) (by omega)]
  dsimp only
  rw [num_enc1 _ _ (by omega) (by omega)]
  dsimp only
  rw [text_enc d _ (by omega), nums_bytes]
theorem cmdBytes_len (k s q : Int) (key val : ByteArray) : (cmdBytes k s q key val).length = 7 + key.size + val.size := by
  simp [cmdBytes, textsL, encN, bytesI_len]; omega
theorem entBytes_len (t k : Int) (d : ByteArray) : (entBytes t k d).length = 6 + d.size := by
  simp [entBytes, textsL, encN, bytesI_len]; omega
theorem cmdRead_bytes {k s q : Int} {key val : ByteArray} (h : cmdOK k s q key val = true) : cmdRead (cmdBytes k s q key val) = ((k, s, q, key, val), 0) := by
  obtain ⟨h1, h2, h3, h4, h5, h6, h7, h8⟩ := cmdOK_bounds h
  unfold cmdRead
  rw [if_neg (by rw [cmdBytes_len]; omega), cmdP_bytes h]
  dsimp only
  rw [if_pos (by rw [h]; rfl)]
theorem entRead_bytes {t k : Int} {d : ByteArray} (h : entOK t k d = true) : entRead (entBytes t k d) = ((t, k, d), 0) := by
  obtain ⟨h1, h2, h3, h4, h5⟩ := entOK_bounds h
  unfold entRead
  rw [if_neg (by rw [entBytes_len]; omega), entP_bytes h]
  dsimp only
  rw [if_pos (by rw [h]; rfl)]
/-- A reading that leaves something had enough. -/
theorem take_some {st : Option (List Int)} {n : Nat} {r : List Int} (h : (takeP n st).2 = some r) : ∃ l, st = some l ∧ n ≤ l.length ∧ (takeP n st).1 = l.take n ∧ r = l.drop n := by
  cases st with
  | none => simp [takeP] at h
  | some l =>
    by_cases hn : n ≤ l.length
    · simp only [takeP, hn, if_true] at h ⊢
      exact ⟨l, rfl, hn, rfl, (Option.some.inj h).symm⟩
    · simp only [takeP, hn, if_false] at h; cases h
theorem num_some1 {st : Option (List Int)} {r : List Int} (h : (numP 1 st).2 = some r) : ∃ l, st = some l ∧ l = (numP 1 st).1 :: r := by
  obtain ⟨l, rfl, hn, e, rfl⟩ := take_some h
  refine ⟨l, rfl, ?_⟩
  match l, hn with
  | a :: t, _ =>
    have : (numP 1 (some (a :: t))).1 = a := by show dec (takeP 1 (some (a :: t))).1 = a; rw [e]; simp [dec, decN]
    rw [this]; rfl
theorem num_some2 {st : Option (List Int)} {r : List Int} (h : (numP 2 st).2 = some r) (hr : rangeP st) : ∃ l, st = some l ∧ l = encN (numP 2 st).1 2 ++ r := by
  obtain ⟨l, rfl, hn, e, rfl⟩ := take_some h
  refine ⟨l, rfl, ?_⟩
  match l, hn with
  | a :: b :: t, _ =>
    have ha := hr 0
    have hb := hr 1
    simp only [List.getD_cons_zero, List.getD_cons_succ] at ha hb
    have : (numP 2 (some (a :: b :: t))).1 = a * 256 + b := by show dec (takeP 2 (some (a :: b :: t))).1 = _; rw [e]; simp [dec, decN]
    rw [this]
    simp [encN]
    omega
theorem text_some {st : Option (List Int)} {r : List Int} (h : (textP st).2 = some r) (hr : rangeP st) : ∃ l, st = some l ∧ l = (((textP st).1.length : Int) :: (textP st).1) ++ r := by
  have h' : (takeP (numP 1 st).1.toNat (numP 1 st).2).2 = some r := h
  obtain ⟨m, hm, hn, e, hr2⟩ := take_some h'
  obtain ⟨l, rfl, hl⟩ := num_some1 hm
  refine ⟨l, rfl, ?_⟩
  have hx := num1_range hr
  have e2 : (textP (some l)).1 = m.take (numP 1 (some l)).1.toNat := e
  have hlen : (textP (some l)).1.length = (numP 1 (some l)).1.toNat := by rw [e2, List.length_take]; omega
  rw [hlen, e2, hr2]
  have hz : (((numP 1 (some l)).1.toNat : Nat) : Int) = (numP 1 (some l)).1 := by omega
  rw [hz]
  conv => lhs; rw [hl]
  simp
theorem cmdRead_back {l : List Int} (hr : ∀ i, 0 ≤ l.getD i 0 ∧ l.getD i 0 ≤ 255) (h : (cmdRead l).2 = 0) : cmdOK (cmdRead l).1.1 (cmdRead l).1.2.1 (cmdRead l).1.2.2.1 (cmdRead l).1.2.2.2.1 (cmdRead l).1.2.2.2.2 = true ∧ cmdBytes (cmdRead l).1.1 (cmdRead l).1.2.1 (cmdRead l).1.2.2.1 (cmdRead l).1.2.2.2.1 (cmdRead l).1.2.2.2.2 = l := by
  unfold cmdRead at h ⊢
  by_cases hl : 65536 < l.length
  · rw [if_pos hl] at h; simp at h
  · rw [if_neg hl] at h ⊢
    split at h
    · rename_i hc
      rw [if_pos hc]
      rw [Bool.and_eq_true] at hc
      refine ⟨hc.2, ?_⟩
      have hd := hc.1
      have r0 : rangeP (some l) := hr
      have r1 : rangeP (numP 1 (some l)).2 := (takeP_range r0 1).2
      have r2 : rangeP (numP 2 (numP 1 (some l)).2).2 := (takeP_range r1 2).2
      have r3 : rangeP (numP 2 (numP 2 (numP 1 (some l)).2).2).2 := (takeP_range r2 2).2
      have q1 : rangeP (numP 1 (numP 2 (numP 2 (numP 1 (some l)).2).2).2).2 := (takeP_range r3 1).2
      have r4 : rangeP (textP (numP 2 (numP 2 (numP 1 (some l)).2).2).2).2 := (takeP_range q1 _).2
      have hend : (textP (textP (numP 2 (numP 2 (numP 1 (some l)).2).2).2).2).2 = some [] := by
        have : doneP (textP (textP (numP 2 (numP 2 (numP 1 (some l)).2).2).2).2).2 = true := hd
        generalize (textP (textP (numP 2 (numP 2 (numP 1 (some l)).2).2).2).2).2 = st at *
        match st, this with
        | some [], _ => rfl
      obtain ⟨l4, e4, f4⟩ := text_some hend r4
      obtain ⟨l3, e3, f3⟩ := text_some e4 r3
      obtain ⟨l2, e2, f2⟩ := num_some2 e3 r2
      obtain ⟨l1, e1, f1⟩ := num_some2 e2 r1
      obtain ⟨l0, e0, f0⟩ := num_some1 e1
      cases e0
      have t3 : ∀ i, 0 ≤ (textP (numP 2 (numP 2 (numP 1 (some l)).2).2).2).1.getD i 0 ∧ (textP (numP 2 (numP 2 (numP 1 (some l)).2).2).2).1.getD i 0 ≤ 255 := (takeP_range q1 _).1
      have q2 : rangeP (numP 1 (textP (numP 2 (numP 2 (numP 1 (some l)).2).2).2).2).2 := (takeP_range r4 1).2
      have t4 : ∀ i, 0 ≤ (textP (textP (numP 2 (numP 2 (numP 1 (some l)).2).2).2).2).1.getD i 0 ∧ (textP (textP (numP 2 (numP 2 (numP 1 (some l)).2).2).2).2).1.getD i 0 ≤ 255 := (takeP_range q2 _).1
      have k1 := num1_range r0
      conv => rhs; rw [f0, f1, f2, f3, f4]
      show cmdBytes (numP 1 (some l)).1 (numP 2 (numP 1 (some l)).2).1 (numP 2 (numP 2 (numP 1 (some l)).2).2).1 (strOfNums (textP (numP 2 (numP 2 (numP 1 (some l)).2).2).2).1) (strOfNums (textP (textP (numP 2 (numP 2 (numP 1 (some l)).2).2).2).2).1) = _
      unfold cmdBytes
      have hk : encN (numP 1 (some l)).1 1 = [(numP 1 (some l)).1] := by simp [encN]; omega
      rw [hk]
      simp [textsL, bytes_nums _ t3, bytes_nums _ t4, strOfNums_size]
    · simp at h
end Go.Proofs.Ytmjbcepkfgfdmaa
