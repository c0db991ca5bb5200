/-
  The law GasPrints returns true at every dive where the table of powers of ten lies in memory.
-/
import Derived.Test.YtahochgbkhpefabGreatDoorSlipsB
namespace Go.Proofs
open Go.RowKit Go.Shelf Gas
attribute [local go_sem ↓] Go.wp_at_zero Go.wp_at_succ

theorem tailW_len3 : ∀ (ns : List Int), (∀ x ∈ ns, 0 ≤ x ∧ x < 1000) → (tailW ns).length ≤ 4 * ns.length
  | [], _ => by simp [tailW]
  | x :: r, h => by
    have h1 := itoa_len3 (h x (by simp))
    have h2 := tailW_len3 r (fun y hy => h y (by simp [hy]))
    simp only [tailW, List.map_cons, List.flatten_cons, List.length_append, List.length_cons] at h2 ⊢
    omega
theorem word_len5 (k : Nat) : (wordK k).length ≤ 5 := by unfold wordK; split <;> simp [diveW, stageW]
theorem lines_short : ∀ (l : List (List Int)) (k : Nat), (∀ r ∈ l, r.length ≤ 4 ∧ ∀ x ∈ r, 0 ≤ x ∧ x < 1000) → (linesL k l).length ≤ 22 * l.length
  | [], _, _ => by simp [linesL]
  | r :: l, k, h => by
    have a := lines_short l (k + 1) (fun x hx => h x (List.mem_cons_of_mem _ hx))
    obtain ⟨h1, h2⟩ := h r (List.mem_cons_self ..)
    have b := tailW_len3 r h2
    have c := word_len5 k
    simp only [linesL, wrL_tail, List.length_append, List.length_cons, List.length_nil] at a ⊢
    omega
theorem rows_low {dive : List St} (h : diveB dive 0 = true) : ∀ r ∈ rowsOf dive, r.length ≤ 4 ∧ ∀ x ∈ r, 0 ≤ x ∧ x < 1000 := by
  intro r hr
  have hl := dive_len h
  simp only [rowsOf, List.mem_cons, List.mem_map] at hr
  rcases hr with rfl | ⟨s, hs, rfl⟩
  · exact ⟨by simp, by simp; omega⟩
  · obtain ⟨h1, h2, h3, h4⟩ := dive_low h s hs
    refine ⟨by simp, ?_⟩
    simp only [List.mem_cons, List.not_mem_nil, or_false]
    rintro x (rfl | rfl | rfl | rfl) <;> assumption
theorem slip_short {dive : List St} (h : diveB dive 0 = true) : (slipL dive).length ≤ 200 := by
  have h1 := lines_short (rowsOf dive) 0 (rows_low h)
  have h2 := dive_len h
  have h3 : (rowsOf dive).length = dive.length + 1 := by simp [rowsOf]
  have h4 := itoa_len3 (x := totS 0 (rowsOf dive) % 97 / 10) (by omega)
  have h5 := itoa_len3 (x := totS 0 (rowsOf dive) % 97 % 10) (by omega)
  simp only [slipL, chkL, List.length_append, List.length_cons, List.length_nil]
  omega
theorem read_slip {dive : List St} (h : diveB dive 0 = true) : readF (slipL dive) = (dive, 0) := by
  have h1 := slip_short h
  simp [readF, show ¬ 200 < (slipL dive).length by omega, told_slip (dive_low h), h]

set_option maxHeartbeats 1000000 in
theorem Print_bad (A : Option Addr) (n c : Nat) (dive : List St) (hn : n ≤ 300) (w : World) (hd : SlOf St.cs 4 w A n dive) (hdb : diveB dive 0 = false) :
    Calls Tryz.prog 34 #[.slice A n c] w fun e w' => e = .returned (.tuple #[.string (bs []), .int .i64 2]) ∧ Below w.heap.size w w' := by
  have HD := Lib.hid fun (w' : World) (hb : Below w.heap.size w w') => diveable_c A n c dive 0 (by omega) (by omega) w' (hd.keep hb)
  rw [hdb] at HD
  clear hd hdb
  go_enter Tryz.func34, Tryz.ntmps34
  go_wp2_with (go_at_call 69; refine (HD.out _ (Below.refl _ _)).mono ?_; rintro e w1 ⟨rfl, hb⟩; have HB := Lib.hid hb; clear hb)
  exact bodyPost_ret (results_tmp2 rfl _ _ _) rfl ⟨rfl, HB.out⟩

set_option maxHeartbeats 2000000 in
set_option maxRecDepth 20000 in
theorem gasPrints_walk (A : Option Addr) (n c : Nat) (dive : List St) (w : World) (hd : SlOf St.cs 4 w A n dive) (htab : Lib.TabIs Tryz.prog w "internal/strconv.uint64pow10" .u64 Lib.pow10Tab) :
    Calls Tryz.prog 9 #[.slice A n c] w fun e w' => e = .returned (.bool true) ∧ Below w.heap.size w w' := by
  obtain rfl := hd.1
  by_cases h7 : 7 < dive.length
  · have z1 : (7 : Int) < (dive.length : Int) := by omega
    clear htab hd
    go_enter Tryz.func9, Tryz.ntmps9
    go_wp2_with (go_at_call 15; refine (knownLaw_c _).mono ?_; rintro e w15 ⟨rfl, hb⟩; have HB := Lib.hid hb; clear hb)
    exact bodyPost_ret (results_tmp rfl _ _ _) rfl ⟨rfl, HB.out⟩
  · have z1 : ¬ (7 : Int) < (dive.length : Int) := by omega
    have HDv := Lib.hid fun (W : World) (hb : Below w.heap.size w W) => refDive_c A dive.length c dive (by omega) W (hd.keep hb)
    cases hdb : diveB dive 0 with
    | false =>
      have HPr := Lib.hid fun (W : World) (hb : Below w.heap.size w W) => Print_bad A dive.length c dive (by omega) W (hd.keep hb) hdb
      rw [hdb] at HDv
      have hz : (bs ([] : List UInt8)).toList = [] := by rw [ByteArray.toList_eq, bs_list]
      clear hd htab hdb
      go_enter Tryz.func9, Tryz.ntmps9
      go_wp2_with (first
        | (go_at_call 34; refine (HPr.out _ (Below.refl _ _)).mono ?_; rintro e w1 ⟨rfl, hb⟩; have B1 := Lib.hid hb; clear hb)
        | (go_at_call 26; refine (HDv.out _ B1.out).mono ?_; rintro e w2 ⟨rfl, hb⟩; have B2 := Lib.hid (nextB B1.out hb); clear hb)
        | (go_at_call 15; refine (knownLaw_c _).mono ?_; rintro e w15 ⟨rfl, hb⟩; have HB := Lib.hid (nextB B2.out hb); clear hb))
      exact bodyPost_ret (results_tmp rfl _ _ _) rfl ⟨rfl, HB.out⟩
    | true =>
      have HI := Lib.hid (rows_itoa htab hdb)
      have HPr := Lib.hid fun (W : World) (hb : Below w.heap.size w W) => Print_c A dive.length c dive (by omega) W (hd.keep hb) (fun r hr x hx => (HI.out r hr x hx).keep hb)
      rw [show prnF dive = (slipL dive, 0) by simp [prnF, hdb]] at HPr
      have hsh := slip_short hdb
      have HRd := Lib.hid fun (W : World) (hb : Below w.heap.size w W) => Read_c (slipL dive) (by omega) W (fun x h0 h1 => (itoa_tab htab x h0 h1).keep hb)
      rw [read_slip hdb] at HRd
      have HRp := Lib.hid fun (W : World) (hb : Below w.heap.size w W) => refPrint_c A dive.length c dive (by omega) W (hd.keep hb) (diveB_num hdb)
      have HSd := Lib.hid fun (B : Option Addr) (d : Nat) (W : World) (hb : Below w.heap.size w W) (hB : SlOf St.cs 4 W B dive.length dive) => sameDives_c B A dive.length d c dive (by omega) W hB (hd.keep hb)
      rw [hdb] at HDv
      clear hd htab hdb HI hsh
      generalize slipL dive = text at *
      go_enter Tryz.func9, Tryz.ntmps9
      go_wp2_with (first
        | (go_at_call 34; refine (HPr.out _ (Below.refl _ _)).mono ?_; rintro e w1 ⟨rfl, hb⟩; have B1 := Lib.hid hb; clear hb)
        | (go_at_call 26; refine (HDv.out _ B1.out).mono ?_; rintro e w2 ⟨rfl, hb⟩; have B2 := Lib.hid (nextB B1.out hb); clear hb)
        | (go_at_call 35; refine (HRd.out _ B2.out).mono ?_; rintro e w3 ⟨A3, c3, rfl, hs3, hA3, hb⟩; have S3 := Lib.hid hs3; have B3 := Lib.hid (nextB B2.out hb); clear hb hs3 hA3)
        | (go_at_call 36; refine (HRp.out _ B3.out).mono ?_; rintro e w4 ⟨rfl, hb⟩; have S34 := Lib.hid (S3.out.keep hb); have B4 := Lib.hid (nextB B3.out hb); clear hb)
        | (go_at_call 37; refine (HSd.out _ _ _ B4.out S34.out).mono ?_; rintro e w5 ⟨rfl, hb⟩; have B5 := Lib.hid (nextB B4.out hb); clear hb)
        | (go_at_call 15; refine (knownLaw_c _).mono ?_; rintro e w15 ⟨rfl, hb⟩; have HB := Lib.hid (nextB B5.out hb); clear hb))
      exact bodyPost_ret (results_tmp rfl _ _ _) rfl ⟨rfl, HB.out⟩
end Go.Proofs
