/- The walks of MomentReads and MomentBack (layer 8). -/
import Derived.Test.YtknomegdfaicnaaReadRefB
namespace Go.Proofs.Ytknomegdfaicnaa
open Go.RowKit Civ
set_option linter.unusedVariables false

/-- both readings of a text tell the same -/
theorem reads_any (s : ByteArray) (hs : s.size ≤ 1000) : ∃ T A E : Int, ReadIs s.data.toList T A E
    ∧ (∀ w, Calls Try.prog 14 #[.string s] w fun e w' => e = .returned (.tuple #[.int .i64 T, .int .i64 A, .int .i64 E]) ∧ Below w.heap.size w w')
    ∧ (∀ w, Calls Try.prog 15 #[.string s] w fun e w' => e = .returned (.tuple #[.int .i64 T, .int .i64 A, .int .i64 E]) ∧ Below w.heap.size w w') := by
  have hlen := size_list s
  have bad : ∀ (k e : Int), scan s.data.toList 0 15 = (k, e) → (e = 2 ∨ e = 3) → ∃ T A E : Int, ReadIs s.data.toList T A E
    ∧ (∀ w, Calls Try.prog 14 #[.string s] w fun e w' => e = .returned (.tuple #[.int .i64 T, .int .i64 A, .int .i64 E]) ∧ Below w.heap.size w w')
    ∧ (∀ w, Calls Try.prog 15 #[.string s] w fun e w' => e = .returned (.tuple #[.int .i64 T, .int .i64 A, .int .i64 E]) ∧ Below w.heap.size w w') := by
    intro k e h he
    refine ⟨0, k, e, .inl ⟨k, e, h, he, rfl, rfl, rfl⟩, fun w => mread_err s k e w hs h he, fun w => ?_⟩
    have := rread_err s w hs (by rw [h]; exact he)
    rw [h] at this
    exact this.mono fun e' w' ⟨a, b⟩ => ⟨a, by rw [← b]; exact Below.refl _ _⟩
  rcases scan_res s.data.toList 15 0 rfl with h | ⟨i, _, _, h⟩ | ⟨i, _, _, h⟩ | h
  · have h15 := ok_sizes s h
    have P := parts_of s hs h
    have R := rparts_of s h
    have hb15 : ∀ hz : 15 < s.size, (s.data.toList.getD 15 0).toNat = (s[15]'hz).toNat := fun hz => byte_at s 15 hz
    by_cases hst : RdSt s.data.toList
    · have m7 : ∀ w, Calls Try.prog 20 #[.agg #[.int .i64 (partI s.data.toList 0 4), .int .i64 (partI s.data.toList 4 6), .int .i64 (partI s.data.toList 6 8), .int .i64 (partI s.data.toList 9 11), .int .i64 (partI s.data.toList 11 13), .int .i64 (partI s.data.toList 13 15)]] w fun e w' => e = .returned (.tuple #[.int .i64 (atL s.data.toList), .bool true]) ∧ Below w.heap.size w w' := by
        intro w
        have := mof_yes _ _ _ _ _ _ w hst
        rw [show dayI (partI s.data.toList 0 4) (partI s.data.toList 4 6) (partI s.data.toList 6 8) * 86400 + secI (partI s.data.toList 9 11) (partI s.data.toList 11 13) (partI s.data.toList 13 15) = atL s.data.toList by unfold atL; omega] at this
        exact this
      have r7 := fun w => rof_yes _ _ _ _ _ _ w hst
      have hN : 0 ≤ atL s.data.toList := (stamp_date hst).2.1
      by_cases hz : s.size = 15
      · exact ⟨0, 15, 7, .inr (.inr (.inl ⟨h, hst, .inl (by omega), rfl, rfl, rfl⟩)), fun w => mread_15 s _ _ _ _ _ _ _ w P m7 hz, fun w => rread_15 s _ _ _ _ _ _ _ w h R r7 hN hz⟩
      · have hz : 15 < s.size := by omega
        by_cases hc : (s[15]'hz).toNat = 90
        · by_cases h16 : 16 < s.size
          · exact ⟨0, 16, 7, .inr (.inr (.inr (.inl ⟨h, hst, by omega, by rw [hb15 hz]; exact hc, rfl, rfl, rfl⟩))), fun w => mread_long s _ _ _ _ _ _ _ w P m7 hz h16 hc, fun w => rread_long s _ _ _ _ _ _ _ w h R r7 hN hz h16 hc⟩
          · exact ⟨atL s.data.toList, 16, 0, .inr (.inr (.inr (.inr ⟨h, hst, by omega, by rw [hb15 hz]; exact hc, rfl, rfl, rfl⟩))), fun w => mread_yes s _ _ _ _ _ _ _ w P m7 hz (by omega) hc, fun w => rread_yes s _ _ _ _ _ _ _ w h R r7 hN hz (by omega) hc⟩
        · exact ⟨0, 15, 7, .inr (.inr (.inl ⟨h, hst, .inr ⟨by omega, by rw [hb15 hz]; exact hc⟩, rfl, rfl, rfl⟩)), fun w => mread_noZ s _ _ _ _ _ _ _ w P m7 hz hc, fun w => rread_noZ s _ _ _ _ _ _ _ w h R r7 hN hz hc⟩
    · exact ⟨0, 0, 4, .inr (.inl ⟨h, hst, rfl, rfl, rfl⟩), fun w => mread_out s _ _ _ _ _ _ w P (fun w => mof_no _ _ _ _ _ _ w hst), fun w => rread_out s _ _ _ _ _ _ w h R (fun w => rof_no _ _ _ _ _ _ w hst)⟩
  · exact bad _ _ h (.inl rfl)
  · exact bad _ _ h (.inr rfl)
  · omega
theorem momentReads_walk (s : ByteArray) (w : World) (ws : s.size ≤ maxLen) : Calls Try.prog 4 #[.string s] w fun e w' => e = .returned (.bool true) ∧ Below w.heap.size w w' := by
  unfold maxLen at ws
  by_cases hl : 100 < s.size
  · have d := decide_eq_true (show (100 : Int) < (s.size : Int) by omega)
    go_enter Try.func4, Try.ntmps4
    go_wp2_with fail
    refine (lives08_any _).mono ?_
    rintro e w1 ⟨rfl, hb⟩
    go_wp2
    go_ret
    exact ⟨rfl, hb⟩
  · obtain ⟨T, A, E, _, k1, k2⟩ := reads_any s (by omega)
    have d : decide ((100 : Int) < (s.size : Int)) = false := decide_eq_false (by omega)
    go_enter Try.func4, Try.ntmps4
    go_wp2_with fail
    refine (k1 _).mono ?_
    rintro e w1 ⟨rfl, hb1⟩
    go_wp2_with fail
    refine (k2 _).mono ?_
    rintro e w2 ⟨rfl, hb2⟩
    go_wp2_with fail
    refine (lives08_any _).mono ?_
    rintro e w3 ⟨rfl, hb3⟩
    go_wp2
    go_ret
    exact ⟨rfl, below_cut (below_cut hb1 hb2) hb3⟩
set_option maxHeartbeats 1600000 in
set_option maxRecDepth 100000 in
theorem back_in_ok (t D S y m d hh hm hs T A E : Int) (s B L : ByteArray) (w : World) (d100 : decide ((100 : Int) < (s.size : Int)) = false)
   (k1 : ∀ w, Calls Try.prog 16 #[.int .i64 t] w fun e w' => e = .returned (.bool true) ∧ w = w')
   (k2 : ∀ w, Calls Try.prog 17 #[.int .i64 t] w fun e w' => e = .returned (.tuple #[.int .i64 D, .int .i64 S, .bool true]) ∧ w = w')
   (k3 : ∀ w, Calls Try.prog 18 #[.int .i64 D, .int .i64 S] w fun e w' => e = .returned (.tuple #[.int .i64 t, .bool true]) ∧ w = w')
   (k4 : ∀ w, Calls Try.prog 19 #[.int .i64 t] w fun e w' => e = .returned (.tuple #[.agg #[.int .i64 y, .int .i64 m, .int .i64 d, .int .i64 hh, .int .i64 hm, .int .i64 hs], .bool true]) ∧ Below w.heap.size w w')
   (k5 : ∀ w, Calls Try.prog 20 #[.agg #[.int .i64 y, .int .i64 m, .int .i64 d, .int .i64 hh, .int .i64 hm, .int .i64 hs]] w fun e w' => e = .returned (.tuple #[.int .i64 t, .bool true]) ∧ Below w.heap.size w w')
   (k6 : ∀ w, Calls Try.prog 21 #[.int .i64 t] w fun e w' => e = .returned (.string B) ∧ Below w.heap.size w w')
   (k7 : ∀ w, Calls Try.prog 14 #[.string B] w fun e w' => e = .returned (.tuple #[.int .i64 t, .int .i64 16, .int .i64 0]) ∧ Below w.heap.size w w')
   (k8 : ∀ w, Calls Try.prog 22 #[.int .i64 t] w fun e w' => e = .returned (.string L) ∧ Below w.heap.size w w') (hL : L.size = 19)
   (k9 : ∀ w, Calls Try.prog 14 #[.string s] w fun e w' => e = .returned (.tuple #[.int .i64 T, .int .i64 A, .int .i64 0]) ∧ Below w.heap.size w w')
   (k10 : ∀ w, Calls Try.prog 21 #[.int .i64 T] w fun e w' => e = .returned (.string s) ∧ Below w.heap.size w w') :
    Calls Try.prog 5 #[.int .i64 t, .string s] w fun e w' => e = .returned (.bool true) ∧ Below w.heap.size w w' := by
  go_enter Try.func5, Try.ntmps5
  go_wp2_with fail
  refine (k1 _).mono ?_
  rintro e w1 ⟨rfl, rfl⟩
  go_wp2_with fail
  refine (k2 _).mono ?_
  rintro e w1 ⟨rfl, rfl⟩
  go_wp2_with fail
  refine (k3 _).mono ?_
  rintro e w1 ⟨rfl, rfl⟩
  go_wp2_with fail
  refine (k4 _).mono ?_
  rintro e w1 ⟨rfl, h1⟩
  have b1 := h1.alloc h1.size (.cells #[.int .i64 y, .int .i64 m, .int .i64 d, .int .i64 hh, .int .i64 hm, .int .i64 hs] 45)
  clear h1
  go_wp2_with fail
  refine (k5 _).mono ?_
  rintro e w2 ⟨rfl, h2⟩
  have b2 := below_cut b1 h2
  clear b1 h2
  go_wp2_with fail
  refine (k6 _).mono ?_
  rintro e w3 ⟨rfl, h3⟩
  have b3 := below_cut b2 h3
  clear b2 h3
  go_wp2_with fail
  refine (k7 _).mono ?_
  rintro e w4 ⟨rfl, h4⟩
  have b4 := below_cut b3 h4
  clear b3 h4
  go_wp2_with fail
  refine (k8 _).mono ?_
  rintro e w5 ⟨rfl, h5⟩
  have b5 := below_cut b4 h5
  clear b4 h5
  go_wp2_with fail
  refine (k9 _).mono ?_
  rintro e w6 ⟨rfl, h6⟩
  have b6 := below_cut b5 h6
  clear b5 h6
  go_wp2_with fail
  refine (k10 _).mono ?_
  rintro e w7 ⟨rfl, h7⟩
  have b7 := below_cut b6 h7
  clear b6 h7
  go_wp2_with fail
  refine (lives08_any _).mono ?_
  rintro e w8 ⟨rfl, h8⟩
  have b8 := below_cut b7 h8
  clear b7 h8
  go_wp2
  go_ret
  exact ⟨rfl, b8⟩
set_option maxHeartbeats 1600000 in
set_option maxRecDepth 100000 in
theorem back_in_bad (t D S y m d hh hm hs T A E : Int) (s B L : ByteArray) (w : World) (d100 : decide ((100 : Int) < (s.size : Int)) = false)
   (k1 : ∀ w, Calls Try.prog 16 #[.int .i64 t] w fun e w' => e = .returned (.bool true) ∧ w = w')
   (k2 : ∀ w, Calls Try.prog 17 #[.int .i64 t] w fun e w' => e = .returned (.tuple #[.int .i64 D, .int .i64 S, .bool true]) ∧ w = w')
   (k3 : ∀ w, Calls Try.prog 18 #[.int .i64 D, .int .i64 S] w fun e w' => e = .returned (.tuple #[.int .i64 t, .bool true]) ∧ w = w')
   (k4 : ∀ w, Calls Try.prog 19 #[.int .i64 t] w fun e w' => e = .returned (.tuple #[.agg #[.int .i64 y, .int .i64 m, .int .i64 d, .int .i64 hh, .int .i64 hm, .int .i64 hs], .bool true]) ∧ Below w.heap.size w w')
   (k5 : ∀ w, Calls Try.prog 20 #[.agg #[.int .i64 y, .int .i64 m, .int .i64 d, .int .i64 hh, .int .i64 hm, .int .i64 hs]] w fun e w' => e = .returned (.tuple #[.int .i64 t, .bool true]) ∧ Below w.heap.size w w')
   (k6 : ∀ w, Calls Try.prog 21 #[.int .i64 t] w fun e w' => e = .returned (.string B) ∧ Below w.heap.size w w')
   (k7 : ∀ w, Calls Try.prog 14 #[.string B] w fun e w' => e = .returned (.tuple #[.int .i64 t, .int .i64 16, .int .i64 0]) ∧ Below w.heap.size w w')
   (k8 : ∀ w, Calls Try.prog 22 #[.int .i64 t] w fun e w' => e = .returned (.string L) ∧ Below w.heap.size w w') (hL : L.size = 19)
   (k9 : ∀ w, Calls Try.prog 14 #[.string s] w fun e w' => e = .returned (.tuple #[.int .i64 T, .int .i64 A, .int .i64 E]) ∧ Below w.heap.size w w') (hE : (E == 0) = false) (hE2 : (E != 0) = true) :
    Calls Try.prog 5 #[.int .i64 t, .string s] w fun e w' => e = .returned (.bool true) ∧ Below w.heap.size w w' := by
  go_enter Try.func5, Try.ntmps5
  go_wp2_with fail
  refine (k1 _).mono ?_
  rintro e w1 ⟨rfl, rfl⟩
  go_wp2_with fail
  refine (k2 _).mono ?_
  rintro e w1 ⟨rfl, rfl⟩
  go_wp2_with fail
  refine (k3 _).mono ?_
  rintro e w1 ⟨rfl, rfl⟩
  go_wp2_with fail
  refine (k4 _).mono ?_
  rintro e w1 ⟨rfl, h1⟩
  have b1 := h1.alloc h1.size (.cells #[.int .i64 y, .int .i64 m, .int .i64 d, .int .i64 hh, .int .i64 hm, .int .i64 hs] 45)
  clear h1
  go_wp2_with fail
  refine (k5 _).mono ?_
  rintro e w2 ⟨rfl, h2⟩
  have b2 := below_cut b1 h2
  clear b1 h2
  go_wp2_with fail
  refine (k6 _).mono ?_
  rintro e w3 ⟨rfl, h3⟩
  have b3 := below_cut b2 h3
  clear b2 h3
  go_wp2_with fail
  refine (k7 _).mono ?_
  rintro e w4 ⟨rfl, h4⟩
  have b4 := below_cut b3 h4
  clear b3 h4
  go_wp2_with fail
  refine (k8 _).mono ?_
  rintro e w5 ⟨rfl, h5⟩
  have b5 := below_cut b4 h5
  clear b4 h5
  go_wp2_with fail
  refine (k9 _).mono ?_
  rintro e w6 ⟨rfl, h6⟩
  have b6 := below_cut b5 h6
  clear b5 h6
  go_wp2_with fail
  refine (lives08_any _).mono ?_
  rintro e w7 ⟨rfl, h7⟩
  have b7 := below_cut b6 h7
  clear b6 h7
  go_wp2
  go_ret
  exact ⟨rfl, b7⟩
set_option maxHeartbeats 1600000 in
set_option maxRecDepth 100000 in
theorem back_out_ok (t T A E : Int) (s : ByteArray) (w : World) (d100 : decide ((100 : Int) < (s.size : Int)) = false)
   (k1 : ∀ w, Calls Try.prog 16 #[.int .i64 t] w fun e w' => e = .returned (.bool false) ∧ w = w')
   (k9 : ∀ w, Calls Try.prog 14 #[.string s] w fun e w' => e = .returned (.tuple #[.int .i64 T, .int .i64 A, .int .i64 0]) ∧ Below w.heap.size w w')
   (k10 : ∀ w, Calls Try.prog 21 #[.int .i64 T] w fun e w' => e = .returned (.string s) ∧ Below w.heap.size w w') :
    Calls Try.prog 5 #[.int .i64 t, .string s] w fun e w' => e = .returned (.bool true) ∧ Below w.heap.size w w' := by
  go_enter Try.func5, Try.ntmps5
  go_wp2_with fail
  refine (k1 _).mono ?_
  rintro e w1 ⟨rfl, rfl⟩
  have b1 : Below w.heap.size w w := Below.refl _ _
  go_wp2_with fail
  refine (k9 _).mono ?_
  rintro e w2 ⟨rfl, h2⟩
  have b2 := below_cut b1 h2
  clear b1 h2
  go_wp2_with fail
  refine (k10 _).mono ?_
  rintro e w3 ⟨rfl, h3⟩
  have b3 := below_cut b2 h3
  clear b2 h3
  go_wp2_with fail
  refine (lives08_any _).mono ?_
  rintro e w4 ⟨rfl, h4⟩
  have b4 := below_cut b3 h4
  clear b3 h4
  go_wp2
  go_ret
  exact ⟨rfl, b4⟩
set_option maxHeartbeats 1600000 in
set_option maxRecDepth 100000 in
theorem back_out_bad (t T A E : Int) (s : ByteArray) (w : World) (d100 : decide ((100 : Int) < (s.size : Int)) = false)
   (k1 : ∀ w, Calls Try.prog 16 #[.int .i64 t] w fun e w' => e = .returned (.bool false) ∧ w = w')
   (k9 : ∀ w, Calls Try.prog 14 #[.string s] w fun e w' => e = .returned (.tuple #[.int .i64 T, .int .i64 A, .int .i64 E]) ∧ Below w.heap.size w w') (hE : (E == 0) = false) (hE2 : (E != 0) = true) :
    Calls Try.prog 5 #[.int .i64 t, .string s] w fun e w' => e = .returned (.bool true) ∧ Below w.heap.size w w' := by
  go_enter Try.func5, Try.ntmps5
  go_wp2_with fail
  refine (k1 _).mono ?_
  rintro e w1 ⟨rfl, rfl⟩
  have b1 : Below w.heap.size w w := Below.refl _ _
  go_wp2_with fail
  refine (k9 _).mono ?_
  rintro e w2 ⟨rfl, h2⟩
  have b2 := below_cut b1 h2
  clear b1 h2
  go_wp2_with fail
  refine (lives08_any _).mono ?_
  rintro e w3 ⟨rfl, h3⟩
  have b3 := below_cut b2 h3
  clear b2 h3
  go_wp2
  go_ret
  exact ⟨rfl, b3⟩
theorem str_eq {a b : ByteArray} (h : a.toList = b.data.toList) : a = b := by
  apply ByteArray.ext
  apply Array.ext'
  rw [← h, ByteArray.toList_eq]
theorem long_size (y m d hh hm hs : Int) : (strOfNums (putAll lonF y m d hh hm hs)).size = 19 := by
  have := lon_list y m d hh hm hs
  rw [← size_list, ← ByteArray.toList_eq, this]
  rfl
theorem momentBack_walk (t : Int) (s : ByteArray) (w : World) (ws : s.size ≤ maxLen) : Calls Try.prog 5 #[.int .i64 t, .string s] w fun e w' => e = .returned (.bool true) ∧ Below w.heap.size w w' := by
  unfold maxLen at ws
  by_cases hl : 100 < s.size
  · have d := decide_eq_true (show (100 : Int) < (s.size : Int) by omega)
    go_enter Try.func5, Try.ntmps5
    go_wp2_with fail
    refine (lives08_any _).mono ?_
    rintro e w1 ⟨rfl, hb⟩
    go_wp2
    go_ret
    exact ⟨rfl, hb⟩
  have d100 : decide ((100 : Int) < (s.size : Int)) = false := decide_eq_false (by omega)
  obtain ⟨T, A, E, hR, k9, _⟩ := reads_any s (by omega)
  have hlen := size_list s
  have fin : (E = 0 ∧ ∀ w, Calls Try.prog 21 #[.int .i64 T] w fun e w' => e = .returned (.string s) ∧ Below w.heap.size w w') ∨ ((E == 0) = false ∧ (E != 0) = true) := by
    have nz : ∀ x : Int, x ≠ 0 → E = x → (E == 0) = false ∧ (E != 0) = true := fun x hx he => by
      subst he; exact ⟨by rw [beq_eq_false_iff_ne]; exact hx, by rw [bne_iff_ne]; exact hx⟩
    rcases hR with ⟨k, e, _, he, _, _, hE⟩ | ⟨_, _, _, _, hE⟩ | ⟨_, _, _, _, _, hE⟩ | ⟨_, _, _, _, _, _, hE⟩ | ⟨h1, h2, h3, h4, hT, _, hE⟩
    · exact .inr (nz e (by omega) hE)
    · exact .inr (nz 4 (by omega) hE)
    · exact .inr (nz 7 (by omega) hE)
    · exact .inr (nz 7 (by omega) hE)
    · refine .inl ⟨hE, fun w => ?_⟩
      have sd := stamp_date h2
      obtain ⟨s1, s2, s3, s4, s5, s6⟩ := sd
      have e4 : T % 86400 / 3600 = partI s.data.toList 9 11 := by rw [hT]; exact s4
      have e5 : T % 86400 / 60 % 60 = partI s.data.toList 11 13 := by rw [hT]; exact s5
      have e6 : T % 60 = partI s.data.toList 13 15 := by rw [hT]; exact s6
      have this : Calls Try.prog 21 #[.int .i64 T] w fun e w' => e = .returned (.string (strOfNums (putAll basF (partI s.data.toList 0 4) (partI s.data.toList 4 6) (partI s.data.toList 6 8) (partI s.data.toList 9 11) (partI s.data.toList 11 13) (partI s.data.toList 13 15)))) ∧ Below w.heap.size w w' :=
        basic_any T _ _ _ _ _ _ w (by rw [hT]; exact s2) (by rw [hT]; exact s3) (by rw [hT]; exact s1) (by have := h2.1; omega) (by have := h2.2.1; omega) e4 e5 e6
      have hb := read_back s.data.toList h1 h3 h4
      rw [str_eq hb] at this
      exact this
  by_cases hw : 0 ≤ t ∧ t < 12622780800
  · obtain ⟨h1, h2⟩ := hw
    obtain ⟨y, m, d, h⟩ := exists_date (t / 86400)
    have hy := date_win h (by omega) (by omega)
    have y1 : 0 ≤ y := by omega
    have y2 : y ≤ 9999 := by omega
    have hm : P2 m := ⟨by have := h.1; omega, by have := h.2.1; omega⟩
    have hd : P2 d := by have a := len_bd y m h.1 h.2.1; have b := h.2.2.1; have c := h.2.2.2.1; exact ⟨by omega, by omega⟩
    have p1 : P2 (t % 86400 / 3600) := ⟨by omega, by omega⟩
    have p2 : P2 (t % 86400 / 60 % 60) := ⟨by omega, by omega⟩
    have p3 : P2 (t % 60) := ⟨by omega, by omega⟩
    have k3 : ∀ w, Calls Try.prog 18 #[.int .i64 (t / 86400), .int .i64 (t % 86400)] w fun e w' => e = .returned (.tuple #[.int .i64 t, .bool true]) ∧ w = w' := fun w => by
      have := mJoin_yes (t / 86400) (t % 86400) w (by omega) (by omega) (by omega) (by omega)
      rwa [show t / 86400 * 86400 + t % 86400 = t by omega] at this
    have hst : IsStamp y m d (t % 86400 / 3600) (t % 86400 / 60 % 60) (t % 60) := ⟨hy.1, hy.2, ⟨by omega, by omega, h.1, h.2.1, h.2.2.1, h.2.2.2.1⟩, by omega, by omega, by omega, by omega, by omega, by omega⟩
    have hday : dayI y m d = t / 86400 := h.2.2.2.2
    have hat : dayI y m d * 86400 + secI (t % 86400 / 3600) (t % 86400 / 60 % 60) (t % 60) = t := by rw [hday]; unfold secI; omega
    have k5 : ∀ w, Calls Try.prog 20 #[.agg #[.int .i64 y, .int .i64 m, .int .i64 d, .int .i64 (t % 86400 / 3600), .int .i64 (t % 86400 / 60 % 60), .int .i64 (t % 60)]] w fun e w' => e = .returned (.tuple #[.int .i64 t, .bool true]) ∧ Below w.heap.size w w' := fun w => by
      have := mof_yes y m d _ _ _ w hst
      rw [hat] at this
      exact this
    have k4 := fun w => stamp_yes t y m d w h1 h2 h y1 y2
    unfold stampV at k4
    have k6 := fun w => basic_any t y m d _ _ _ w h1 h2 h y1 y2 rfl rfl rfl
    have k8 := fun w => long_any t y m d _ _ _ w h1 h2 h y1 y2 rfl rfl rfl
    have k7 : ∀ w, Calls Try.prog 14 #[.string (strOfNums (putAll basF y m d (t % 86400 / 3600) (t % 86400 / 60 % 60) (t % 60)))] w fun e w' => e = .returned (.tuple #[.int .i64 t, .int .i64 16, .int .i64 0]) ∧ Below w.heap.size w w' := by
      have tr := told_read y m d _ _ _ ⟨y1, y2⟩ hm hd p1 p2 p3
      generalize strOfNums (putAll basF y m d (t % 86400 / 3600) (t % 86400 / 60 % 60) (t % 60)) = B at tr ⊢
      simp only [ByteArray.toList_eq] at tr
      obtain ⟨t1, t2, t3, t4, t5, t6, t7, t8, t9⟩ := tr
      have hBl := size_list B
      obtain ⟨T', A', E', hR', k, _⟩ := reads_any B (by omega)
      have hs' : RdSt B.data.toList := by unfold RdSt; rw [t4, t5, t6, t7, t8, t9]; exact hst
      rcases hR' with ⟨k, e, h, he, _, _, hE⟩ | ⟨_, h, _, _, hE⟩ | ⟨_, _, h, _, _, hE⟩ | ⟨_, _, h, _, _, _, hE⟩ | ⟨_, _, _, _, hT', hA', hE'⟩
      · rw [t1] at h
        simp only [Prod.mk.injEq] at h
        omega
      · exact absurd hs' h
      · rcases h with h | ⟨_, h⟩
        · omega
        · exact absurd t3 h
      · omega
      · have e : T' = t := by rw [hT']; unfold atL; rw [t4, t5, t6, t7, t8, t9]; omega
        subst e hA' hE'
        exact k
    rcases fin with ⟨rfl, k10⟩ | ⟨e1, e2⟩
    · exact back_in_ok t _ _ y m d _ _ _ T A 0 s _ _ w d100 (fun w => min_yes t w h1 h2) (fun w => split_yes t w h1 h2) k3 k4 k5 k6 k7 k8 (long_size _ _ _ _ _ _) k9 k10
    · exact back_in_bad t _ _ y m d _ _ _ T A E s _ _ w d100 (fun w => min_yes t w h1 h2) (fun w => split_yes t w h1 h2) k3 k4 k5 k6 k7 k8 (long_size _ _ _ _ _ _) k9 e1 e2
  · rcases fin with ⟨rfl, k10⟩ | ⟨e1, e2⟩
    · exact back_out_ok t T A 0 s w d100 (fun w => min_no t w (by omega)) k9 k10
    · exact back_out_bad t T A E s w d100 (fun w => min_no t w (by omega)) k9 e1 e2
end Go.Proofs.Ytknomegdfaicnaa
