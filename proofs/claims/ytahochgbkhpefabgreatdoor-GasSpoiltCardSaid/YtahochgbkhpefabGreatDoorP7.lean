/-
  Contracts of Worst, Minutes, Depth and Crew hold where something is left open and nothing is refused.
-/
import Derived.Test.YtahochgbkhpefabGreatDoorP6
import Derived.Scope
import Derived.Defers
import Derived.Recover
namespace Go.Proofs
open Go.RowKit Go.Shelf Gas
attribute [local go_sem ↓] Go.wp_at_zero Go.wp_at_succ

def exP (ps rs : List Pr) (h : Nat → Int → Pr) (d : Int) (p : Int) : Bool := exceedsB ps rs h p.toNat d
def worstL (ps rs : List Pr) (pn : Nat) : FS → Int → List St → Option (Int × Int)
  | _, _, [] => none
  | a, k, s :: l => match firstFrom (exP ps rs a.1 s.dl) pn 0 with
    | some p => some (k, p)
    | none => worstL ps rs pn (stayH a.1 s, enterB ps rs a.1 s.dl a.2) (k + 1) l
def worV (o : Option (Int × Int)) : Int × Int × Int := match o with | some (k, p) => (k, p, 0) | none => (0, 0, 5)
def worstF (t : Tm) (dive : List St) : Int × Int × Int := if definedB t.ps t.ss t.rs dive 0 then worV (worstL t.ps t.rs t.pn (h0, true) 0 (dive ++ [st0])) else (0, 0, 2)
def worE (r : Int × Int × Int) : Value := .tuple #[.int .i64 r.1, .int .i64 r.2.1, .int .i64 r.2.2]

set_option maxHeartbeats 4000000 in
theorem Worst_c (t : Tm) (ht : t.Small) (A : Option Addr) (n c : Nat) (dive : List St) (hA : A = none → c = 0) (hn : n ≤ 100000) (w : World) (hi : t.In w) (hd : SlOf St.cs 4 w A n dive) :
    Calls Tryz.prog 48 #[t.tab, t.man, .slice A n c] w fun e w' => e = .returned (worE (worstF t dive)) ∧ Below w.heap.size w w' := by
  have HD := Lib.hid fun (w' : World) (hb : Below w.heap.size w w') => defined_c t ht A n c dive 0 (by omega) (by omega) w' (hi.keep hb) (hd.keep hb)
  have HOK := Lib.hid fun h => defined_ok ht hi (dive := dive) (room := 0) h
  cases hdb : definedB t.ps t.ss t.rs dive 0
  · have HE := Lib.hid (show worstF t dive = (0, 0, 2) by simp [worstF, hdb])
    rw [hdb] at HD
    rw [HE.out]
    clear hi hd HOK hdb
    obtain ⟨pA, sA, rA, pn, pc, sn, sc, rn, rc, ps, ss, rs⟩ := t
    simp only [Tm.tab, Tm.man] at *
    go_enter Tryz.func48, Tryz.ntmps48
    go_wp2
    refine wp_scope_straight ?_
    go_wp2_with (go_at_call 56; refine (HD.out _ (newB (newB (Below.refl _ _) _) _)).mono ?_; rintro e w1 ⟨rfl, hb1⟩; have HB1 := Lib.hid hb1; clear hb1)
    dsimp only [Exit.noGoto]
    exact bodyPost_ret (results_tmp3 rfl _ _ _) rfl ⟨rfl, nextB (newB (newB (Below.refl _ _) _) _) HB1.out⟩
  · have HE := Lib.hid (show worstF t dive = worV (worstL t.ps t.rs t.pn (h0, true) 0 (dive ++ [st0])) by simp [worstF, hdb])
    obtain ⟨hok, hds, hlen⟩ := HOK.out hdb
    have hl := hd.1
    have hpl : t.ps.length = t.pn := hi.ps.1
    have hS1 : ∀ s ∈ dive ++ [st0], SOk s := fun s hs => by
      rcases List.mem_append.1 hs with h | h
      · exact hds s h
      · simp at h; subst h; exact st0_ok
    have HSO := Lib.hid hS1
    have HLN := Lib.hid (show (dive ++ [st0]).length = n + 1 by simp [hl])
    have HH0 := Lib.hid (h0_ok hok)
    have HBg := Lib.hid fun (w' : World) (hb : Below w.heap.size w w') => begin_c t hok w' (hi.keep hb)
    have HSf := Lib.hid fun (w' : World) (hb : Below w.heap.size w w') => (surfaced_c A n c dive hA (by omega) w' (hd.keep hb)).mono fun e w2 h => h.row (by omega)
    have HX := Lib.hid fun (w' : World) (hb : Below w.heap.size w w') (h' : Nat → Int → Pr) (ho' : FolOk t h') (s : St) (hs : SOk s) (b' : Nat) (k' : Bool) (hm' : MapAt w' b' (heldF t.rs h')) => stay_c t h' ho' s hs b' k' w' (hi.keep hb) hm'
    have HEx := Lib.hid fun (w' : World) (hb : Below w.heap.size w w') (h' : Nat → Int → Pr) (ho' : FolOk t h') (s : St) (hs : SOk s) (b' : Nat) (k' : Bool) (hm' : MapAt w' b' (heldF t.rs h')) (p : Nat) (hp : p < t.pn) => exceeds_c t h' ho' b' k' p s.dl (by omega) (by have := hs.dl; omega) w' (hi.keep hb) hm'
    have HNext := Lib.hid fun (h' : Nat → Int → Pr) (ho' : FolOk t h') (s : St) (hs : SOk s) => ho'.stay hs
    have hsm := ht.p
    rw [hdb] at HD
    rw [HE.out]
    clear hi hd HOK hdb hok hds hS1 HE hpl
    generalize dive ++ [st0] = all at *
    have hn4 : n ≤ 4 := by omega
    clear hlen hl
    obtain ⟨pA, sA, rA, pn, pc, sn, sc, rn, rc, ps, ss, rs⟩ := t
    have HFV := Lib.hid (show ∀ b k, FolV ⟨pA, sA, rA, pn, pc, sn, sc, rn, rc, ps, ss, rs⟩ b k = .agg #[.slice pA pn pc, .slice sA sn sc, .slice rA rn rc, .map (some b), .bool k] from fun _ _ => rfl)
    simp only [Tm.tab, Tm.man] at *
    have T0 := Lib.hid ((Has.new w 25 #[.slice pA pn pc, .slice sA sn sc]).alloc (.cells #[.slice rA rn rc] 28))
    have M0 := Lib.hid (Has.new' (w.alloc (.cells #[.slice pA pn pc, .slice sA sn sc] 25)) 28 #[.slice rA rn rc] (g := w.heap.size + 1) (by simp))
    have B0 := Lib.hid (newB (newB (Below.refl w.heap.size w) (.cells #[.slice pA pn pc, .slice sA sn sc] 25)) (.cells #[.slice rA rn rc] 28))
    go_enter Tryz.func48, Tryz.ntmps48
    go_wp2
    refine wp_scope_straight ?_
    go_wp2_with (first
      | (go_at_call 56; refine (HD.out _ B0.out).mono ?_; rintro e w1 ⟨rfl, hb1⟩; have HB1 := Lib.hid (nextB B0.out hb1); have T1 := Lib.hid (T0.out.after hb1); have M1 := Lib.hid (M0.out.after hb1); have ct := T1.out.cell; have cm := M1.out.cell; clear hb1)
      | (go_at_call 57; refine (HBg.out _ HB1.out).mono ?_; rintro e w2 ⟨bm, rfl, hM, hb2⟩; rw [HFV.out]; have HM := Lib.hid hM; have HB2 := Lib.hid (nextB HB1.out hb2); clear hM hb2))
    refine wp_label ?_
    go_wp2_with (go_at_call 77; refine (HSf.out _ (newB HB2.out _)).mono ?_; rintro e w3 ⟨sg, cap, rfl, hR, hb3⟩; have HR := Lib.hid hR; have HB3 := Lib.hid (nextB (newB HB2.out _) hb3); have F3 := Lib.hid ((Has.new w2 108 #[.slice pA pn pc, .slice sA sn sc, .slice rA rn rc, .map (some bm), .bool true]).after hb3); have HM3 := Lib.hid ((HM.out.keep (newB (Below.refl _ _) _)).keep hb3); clear hR hb3)
    have HZ := Lib.hid (show w.heap.size ≤ w2.heap.size from HB2.out.size)
    clear ct cm
    generalize w2.heap.size = F at *
    go_loopw [9, 10, 11, 27] (fun v9 v10 v11 i wr => ∃ (k : Nat) (h' : Nat → Int → Pr) (kk : Bool) (b' : Nat), v9 = .int .i64 0 ∧ v10 = .int .i64 0 ∧ v11 = .int .i64 5 ∧ k ≤ n + 1 ∧ i = .int .i64 k ∧ Below w.heap.size w wr ∧ FolOk ⟨pA, sA, rA, pn, pc, sn, sc, rn, rc, ps, ss, rs⟩ h' ∧ MapAt wr b' (heldF rs h')
      ∧ worstL ps rs pn (h0, true) 0 all = worstL ps rs pn (h', kk) k (all.drop k)
      ∧ Has wr F 108 #[.slice pA pn pc, .slice sA sn sc, .slice rA rn rc, .map (some b'), .bool kk] ∧ RowOf St.cs 4 wr sg 80 (n + 1) all) (fun _ _ _ i _ => n + 1 - (intOf i).toNat)
    case atStart => exact ⟨0, h0, true, bm, rfl, rfl, rfl, by omega, rfl, HB3.out, HH0.out, HM3.out, rfl, F3.out, HR.out⟩
    case round =>
      obtain ⟨k, h', kk, b', rfl, rfl, rfl, hk, rfl, hB, hO, hM, hE, hF, hR⟩ := hrel
      have HB := Lib.hid hB; have HF := Lib.hid hF; have HO2 := Lib.hid hO; have HM2 := Lib.hid hM; have HE2 := Lib.hid hE; have HR2 := Lib.hid hR
      clear hB hF hO hM hE hR
      by_cases hkn : k < n + 1
      · have hkl : k < all.length := by rw [HLN.out]; exact hkn
        have hx := List.getElem?_eq_getElem hkl
        have HS := Lib.hid (HSO.out _ (List.getElem_mem hkl))
        have HDr := Lib.hid (List.drop_eq_getElem_cons hkl)
        obtain ⟨x, hxx⟩ : ∃ x, x = all[k] := ⟨_, rfl⟩
        rw [← hxx] at hx HS HDr
        have hR := Lib.hid ((HR2.out.sl St.cs_len).range St.cs_len hx)
        clear hx hxx
        obtain ⟨dl, dh, ml, mh⟩ := x
        replace hR := Lib.hid (show wr.rangeAt sg (0 + k * 4) [.int .i64 dl, .int .i64 dh, .int .i64 ml, .int .i64 mh] from hR.out)
        have hFl := HF.out.lt
        have hb2 : Below wr.heap.size wr (wr.alloc (.cells #[.int .i64 dl, .int .i64 dh, .int .i64 ml, .int .i64 mh] 80)) := newB (Below.refl wr.heap.size wr) _
        have N0 := Lib.hid (Has.new wr 80 #[.int .i64 dl, .int .i64 dh, .int .i64 ml, .int .i64 mh])
        have F2 := Lib.hid (HF.out.after hb2)
        have HBN := Lib.hid (nextB HB.out hb2); have HM4 := Lib.hid (HM2.out.keep hb2); have HR4 := Lib.hid (HR2.out.keep hb2)
        have cf := F2.out.cell
        clear hb2
        have HWo := Lib.hid (show worstL ps rs pn (h', kk) k (all.drop k) = match firstFrom (exP ps rs h' dl) pn 0 with | some p => some ((k : Int), p) | none => worstL ps rs pn (stayH h' ⟨dl, dh, ml, mh⟩, enterB ps rs h' dl kk) ((k : Int) + 1) (all.drop (k + 1)) by rw [HDr.out]; rfl)
        go_wp2_with (refine wpList_load_mid rfl 80 _ rfl sg (0 + k * 4) (by simp [go_sem]) _ _ hR.out Tryz.underlying80 rfl (by kernel_rfl) ?_)
        generalize wr.alloc (.cells #[.int .i64 dl, .int .i64 dh, .int .i64 ml, .int .i64 mh] 80) = W at *
        generalize wr.heap.size = NB at *
        clear cf
        go_loopw [9, 10, 11, 36] (fun v9 v10 v11 i wi => ∃ (p : Nat), v9 = .int .i64 0 ∧ v10 = .int .i64 0 ∧ v11 = .int .i64 5 ∧ p ≤ pn ∧ i = .int .i64 p ∧ Below w.heap.size w wi ∧ MapAt wi b' (heldF rs h')
          ∧ firstFrom (exP ps rs h' dl) pn 0 = firstFrom (exP ps rs h' dl) (pn - p) p
          ∧ Has wi F 108 #[.slice pA pn pc, .slice sA sn sc, .slice rA rn rc, .map (some b'), .bool kk] ∧ Has wi NB 80 #[.int .i64 dl, .int .i64 dh, .int .i64 ml, .int .i64 mh] ∧ RowOf St.cs 4 wi sg 80 (n + 1) all) (fun _ _ _ i _ => pn - (intOf i).toNat)
        case atStart => exact ⟨0, rfl, rfl, rfl, by omega, rfl, HBN.out, HM4.out, rfl, F2.out, N0.out, HR4.out⟩
        case round =>
          obtain ⟨p, rfl, rfl, rfl, hp, rfl, hB, hM, hE, hF, hN, hR⟩ := hrel
          have HBi := Lib.hid hB; have HFi := Lib.hid hF; have HMi := Lib.hid hM; have HEi := Lib.hid hE; have HRi := Lib.hid hR; have HNi := Lib.hid hN
          have cn := hN.cell
          clear hB hF hM hE hR hN
          by_cases hpn : p < pn
          · have HXp := Lib.hid (HEx.out wr HBi.out h' HO2.out ⟨dl, dh, ml, mh⟩ HS.out b' kk HMi.out p hpn)
            have HQ := Lib.hid (show firstFrom (exP ps rs h' dl) (pn - p) p = if exceedsB ps rs h' p dl then some (p : Int) else firstFrom (exP ps rs h' dl) (pn - (p + 1)) ((p + 1 : Nat) : Int) by
              rw [show pn - p = (pn - (p + 1)) + 1 by omega]; simp only [firstFrom, exP, Int.toNat_natCast]; rfl)
            cases hex : exceedsB ps rs h' p dl
            all_goals
              rw [hex] at HQ
              simp only [hex] at HXp
              clear hex
              go_wp2_with (first
                | (refine wpList_load_row rfl 108 _ rfl F rfl 108 _ (0, 0) _ HFi.out Tryz.underlying108 rfl (by kernel_rfl) ?_)
                | (go_at_call 92; refine HXp.out.mono ?_; rintro e w5 ⟨rfl, hb5⟩; have HB5 := Lib.hid (nextB HBi.out hb5); have F5 := Lib.hid (HFi.out.after hb5); have N5 := Lib.hid (HNi.out.after hb5); have M5 := Lib.hid (HMi.out.keep hb5); have R5 := Lib.hid (HRi.out.keep hb5); clear hb5))
            · go_roundw
              case rel => exact ⟨p + 1, rfl, rfl, rfl, by omega, by go_num, HB5.out, M5.out, HEi.out.trans (HQ.out.trans (if_neg (by decide))), F5.out, N5.out, R5.out⟩
              case measure => simp [intOf]; omega
            · dsimp only [Exit.noGoto]
              have he : worstL ps rs pn (h0, true) 0 all = some ((k : Int), (p : Int)) := by rw [HE2.out, HWo.out, HEi.out, HQ.out]; rfl
              refine (show bodyPost Tryz.prog Tryz.f48 (fun e w' => e = .returned (worE (worV (worstL ps rs pn (h0, true) 0 all))) ∧ Below w.heap.size w w') Exit.ret _ _ from ?_)
              rw [he]
              exact bodyPost_ret (results_tmp3 rfl _ _ _) rfl ⟨rfl, HB5.out⟩
          · have hpe : p = pn := by omega
            subst hpe
            have HSt := Lib.hid (HX.out wr HBi.out h' HO2.out ⟨dl, dh, ml, mh⟩ HS.out b' kk HMi.out)
            simp only [St.val] at HSt
            go_wp2_with (first
              | (refine wpList_load_row rfl 108 _ rfl F rfl 108 _ (0, 0) _ HFi.out Tryz.underlying108 rfl (by kernel_rfl) ?_)
              | (refine wpList_load_row rfl 80 _ rfl NB rfl 80 _ (0, 0) _ HNi.out Tryz.underlying80 rfl (by kernel_rfl) ?_)
              | (go_at_call 65; refine HSt.out.mono ?_; rintro e w7 ⟨b2, rfl, hM7, hb7⟩; have HM7 := Lib.hid hM7; have HB7 := Lib.hid (nextB HBi.out hb7); have F7 := Lib.hid (HFi.out.after hb7); have R7 := Lib.hid (HRi.out.keep hb7); clear hb7 hM7)
              | (refine wpList_store_all rfl 108 _ _ rfl F rfl _ rfl 108 _ F7.out (by kernel_rfl) rfl (by simp [Value.oneCell', folC]) ?_))
            go_roundw
            case rel => exact ⟨k + 1, stayH h' ⟨dl, dh, ml, mh⟩, enterB ps rs h' dl kk, b2, rfl, rfl, rfl, by omega, by go_num, rowB HB7.out HZ.out _, HNext.out h' HO2.out _ HS.out, HM7.out.setRow (HM7.out.ne F7.out) _,
              HE2.out.trans (HWo.out.trans (by rw [HEi.out, Nat.sub_self]; rfl)), F7.out.setRow _, R7.out.setRow F7.out (by decide) _⟩
            case measure => simp [intOf]; omega
      · go_wp2
        have hke : k = n + 1 := by omega
        subst hke
        dsimp only [Exit.noGoto]
        have he : worstL ps rs pn (h0, true) 0 all = none := HE2.out.trans (by rw [List.drop_eq_nil_of_le (by rw [HLN.out]; exact Nat.le_refl _)]; rfl)
        refine (show bodyPost Tryz.prog Tryz.f48 (fun e w' => e = .returned (worE (worV (worstL ps rs pn (h0, true) 0 all))) ∧ Below w.heap.size w w') Exit.ret _ _ from ?_)
        rw [he]
        exact bodyPost_ret (results_tmp3 rfl _ _ _) rfl ⟨rfl, HB.out⟩
end Go.Proofs
namespace Go.Proofs
open Go.RowKit Go.Shelf Gas
attribute [local go_sem ↓] Go.wp_at_zero Go.wp_at_succ

theorem span_c (l h : Int) (w : World) : Calls Tryz.prog 43 #[.int .i64 l, .int .i64 h] w fun e w' => e = .returned (.agg #[.int .i64 l, .int .i64 h]) ∧ Below w.heap.size w w' := by
  go_enter Tryz.func43, Tryz.ntmps43
  go_wp2
  refine bodyPost_ret (v := .agg #[.int .i64 l, .int .i64 h]) (by simp [results, Tryz.results43, go_sem]) rfl ⟨rfl, ?_⟩
  repeat' (first | exact Below.refl _ _ | refine Below.setCell ?_ ?_ _ | refine newB ?_ _)
  all_goals simp
theorem just1_c (n : Int) (w : World) : Calls Tryz.prog 24 #[.int .i64 n] w fun e w' => e = .returned (.agg #[.int .i64 n, .int .i64 n]) ∧ Below w.heap.size w w' := by
  have Z := Lib.hid (Has.new w 43 #[.int .i64 0, .int .i64 0])
  go_enter Tryz.func24, Tryz.ntmps24
  go_wp2_with (first
    | (go_at_call 43; refine (span_c n n _).mono ?_; rintro e w1 ⟨rfl, hb1⟩; have Z1 := Lib.hid (Z.out.after hb1); have B1 := Lib.hid (nextB (newB (Below.refl _ _) _) hb1); clear hb1)
    | (refine wpList_store_all rfl 43 _ _ rfl w.heap.size rfl _ rfl 43 _ Z1.out (by kernel_rfl) rfl (by simp [Value.oneCell']) ?_))
  exact bodyPost_ret (results_cell_row Tryz.results24 _ _ w.heap.size 43 _ (0, 0) _ rfl (Z1.out.setRow _) Tryz.underlying43 rfl (by kernel_rfl)) rfl ⟨rfl, rowB B1.out (by omega) _⟩

def IsDive1 (w0 : World) (s : St) (e : Ending) (w' : World) : Prop := ∃ g, e = .returned (.slice (some ⟨g, 0, none⟩) 1 1) ∧ SlOf St.cs 4 w' (some ⟨g, 0, none⟩) 1 [s] ∧ Below w0.heap.size w0 w'
theorem W_c (w : World) : Calls Tryz.prog 47 #[] w (IsDive1 w ⟨9, 10, 3, 4⟩) := by
  go_enter Tryz.func47, Tryz.ntmps47
  go_wp2_with (go_at_call 43; refine (span_c _ _ _).mono ?_; rintro e w2 ⟨rfl, hb⟩; (first | have HB2 := Lib.hid (nextB HB1.out hb) | have HB1 := Lib.hid hb); clear hb)
  exact bodyPost_ret (results_tmp rfl _ _ _) rfl ⟨w2.heap.size, rfl, SlOf.of_cells St.cs_len (Has.new w2 80 _) rfl rfl, newB HB2.out _⟩
theorem V_c (w : World) : Calls Tryz.prog 50 #[] w (IsDive1 w ⟨10, 10, 3, 3⟩) := by
  go_enter Tryz.func50, Tryz.ntmps50
  go_wp2_with (go_at_call 24; refine (just1_c _ _).mono ?_; rintro e w2 ⟨rfl, hb⟩; (first | have HB2 := Lib.hid (nextB HB1.out hb) | have HB1 := Lib.hid hb); clear hb)
  exact bodyPost_ret (results_tmp rfl _ _ _) rfl ⟨w2.heap.size, rfl, SlOf.of_cells St.cs_len (Has.new w2 80 _) rfl rfl, newB HB2.out _⟩
theorem U_c (w : World) : Calls Tryz.prog 51 #[] w (IsDive1 w ⟨10, 10, 8, 8⟩) := by
  go_enter Tryz.func51, Tryz.ntmps51
  go_wp2_with (go_at_call 24; refine (just1_c _ _).mono ?_; rintro e w2 ⟨rfl, hb⟩; (first | have HB2 := Lib.hid (nextB HB1.out hb) | have HB1 := Lib.hid hb); clear hb)
  exact bodyPost_ret (results_tmp rfl _ _ _) rfl ⟨w2.heap.size, rfl, SlOf.of_cells St.cs_len (Has.new w2 80 _) rfl rfl, newB HB2.out _⟩

def IsMan1 (w0 : World) (rs : List Pr) (e : Ending) (w' : World) : Prop := ∃ g, e = .returned (.agg #[.slice (some ⟨g, 0, none⟩) 2 2]) ∧ SlOf prC 2 w' (some ⟨g, 0, none⟩) 2 rs ∧ Below w0.heap.size w0 w'
theorem M_c (w : World) : Calls Tryz.prog 46 #[] w (IsMan1 w [(100, 100), (20, 25)]) := by
  have Z := Lib.hid (Has.new w 28 #[.slice none 0 0])
  have B0 := Lib.hid (newB (Below.refl w.heap.size w) (.cells #[.slice none 0 0] 28))
  go_enter Tryz.func46, Tryz.ntmps46
  go_wp2_with (first
    | (go_at_call 24; refine (just1_c 100 _).mono ?_; rintro e w1 ⟨rfl, hb1⟩; have HB1 := Lib.hid (nextB B0.out hb1); have Z1 := Lib.hid (Z.out.after hb1); clear hb1)
    | (go_at_call 43; refine (span_c 20 25 _).mono ?_; rintro e w2 ⟨rfl, hb2⟩; have HB2 := Lib.hid (nextB HB1.out hb2); have Z2 := Lib.hid (Z1.out.after hb2); have hlt := Z2.out.lt; clear hb2)
    | (refine wpList_store_all rfl 28 _ _ rfl w.heap.size rfl _ rfl 28 _ (Z2.out.alloc _) (by kernel_rfl) rfl (by simp [Value.oneCell']) ?_))
  exact bodyPost_ret (results_cell_row Tryz.results46 _ _ w.heap.size 28 _ (0, 0) _ rfl ((Z2.out.alloc _).setRow _) Tryz.underlying28 rfl (by kernel_rfl)) rfl ⟨w2.heap.size, rfl, SlOf.of_cells prC_len ((Has.new w2 43 _).setRow_far (by omega) _) rfl rfl, rowB (newB HB2.out _) (by omega) _⟩
theorem N_c (w : World) : Calls Tryz.prog 53 #[] w (IsMan1 w [(80, 80), (20, 20)]) := by
  have Z := Lib.hid (Has.new w 28 #[.slice none 0 0])
  have B0 := Lib.hid (newB (Below.refl w.heap.size w) (.cells #[.slice none 0 0] 28))
  go_enter Tryz.func53, Tryz.ntmps53
  go_wp2_with (first
    | (go_at_call 24; refine (just1_c _ _).mono ?_; rintro e w2 ⟨rfl, hb⟩; (first | (have HB2 := Lib.hid (nextB HB1.out hb); have Z2 := Lib.hid (Z1.out.after hb); have hlt := Z2.out.lt) | (have HB1 := Lib.hid (nextB B0.out hb); have Z1 := Lib.hid (Z.out.after hb))); clear hb)
    | (refine wpList_store_all rfl 28 _ _ rfl w.heap.size rfl _ rfl 28 _ (Z2.out.alloc _) (by kernel_rfl) rfl (by simp [Value.oneCell']) ?_))
  exact bodyPost_ret (results_cell_row Tryz.results53 _ _ w.heap.size 28 _ (0, 0) _ rfl ((Z2.out.alloc _).setRow _) Tryz.underlying28 rfl (by kernel_rfl)) rfl ⟨w2.heap.size, rfl, SlOf.of_cells prC_len ((Has.new w2 43 _).setRow_far (by omega) _) rfl rfl, rowB (newB HB2.out _) (by omega) _⟩
def IsTab1 (w0 : World) (e : Ending) (w' : World) : Prop := ∃ g1 g2, e = .returned (.agg #[.slice (some ⟨g1, 0, none⟩) 2 2, .slice (some ⟨g2, 0, none⟩) 2 2]) ∧ SlOf prC 2 w' (some ⟨g1, 0, none⟩) 2 [(1600, 200), (1300, 150)] ∧ SlOf inC 1 w' (some ⟨g2, 0, none⟩) 2 [2, 4] ∧ Below w0.heap.size w0 w'
theorem T_c (w : World) : Calls Tryz.prog 45 #[] w (IsTab1 w) := by
  have Z := Lib.hid ((((Has.new w 25 #[.slice none 0 0, .slice none 0 0]).alloc (.cells #[.int .i64 1600, .int .i64 200, .int .i64 1300, .int .i64 150] 77)).alloc (.cells #[.int .i64 2, .int .i64 4] 3)))
  go_enter Tryz.func45, Tryz.ntmps45
  go_wp2_with (refine wpList_store_all rfl 25 _ _ rfl w.heap.size rfl _ rfl 25 _ Z.out (by kernel_rfl) rfl (by simp [Value.oneCell']) ?_)
  exact bodyPost_ret (results_cell_row Tryz.results45 _ _ w.heap.size 25 _ (0, 0) _ rfl (Z.out.setRow _) Tryz.underlying25 rfl (by kernel_rfl)) rfl ⟨w.heap.size + 1, w.heap.size + 1 + 1, rfl,
    SlOf.of_cells prC_len (((Has.new' _ 77 _ (by simp)).alloc _).setRow_far (by omega) _) rfl rfl, SlOf.of_cells inC_len ((Has.new' _ 3 _ (by simp)).setRow_far (by omega) _) rfl rfl, rowB (newB (newB (newB (Below.refl _ _) _) _) _) (by omega) _⟩
end Go.Proofs
namespace Go.Proofs
open Go.RowKit Go.Shelf Gas
attribute [local go_sem ↓] Go.wp_at_zero Go.wp_at_succ

theorem w64 {x : Int} (h1 : -9223372036854775808 ≤ x) (h2 : x ≤ 9223372036854775807) : wrap64 x = x := by unfold wrap64; omega
def strF (d s : Int) : Int := d * (100 + s) / 100
theorem mul_le {d s D S : Int} (hd : 0 ≤ d ∧ d ≤ D) (hs : 0 ≤ s ∧ s ≤ S) : 0 ≤ d * s ∧ d * s ≤ D * S :=
  ⟨Int.mul_nonneg hd.1 hs.1, by
    have h1 := Int.mul_le_mul hd.2 hs.2 hs.1 (by omega : (0:Int) ≤ D)
    exact h1⟩
theorem stretched_c (d s : Int) (hd : 0 ≤ d ∧ d ≤ 1000) (hs : 0 ≤ s ∧ s ≤ 1000) (w : World) : Calls Tryz.prog 118 #[.int .i64 d, .int .i64 s] w fun e w' => e = .returned (.int .i64 (strF d s)) ∧ Below w.heap.size w w' := by
  have hm := mul_le (d := d) (s := 100 + s) (D := 1000) (S := 1100) hd (by omega)
  have w1 : IntKind.i64.wrap (100 + s) = 100 + s := wI (by omega) (by omega)
  have w2 : IntKind.i64.wrap (d * (100 + s)) = d * (100 + s) := wI (by omega) (by omega)
  obtain ⟨m, hmm⟩ : ∃ m, m = d * (100 + s) := ⟨_, rfl⟩
  have HE := Lib.hid (show strF d s = m / 100 by rw [hmm]; rfl)
  rw [← hmm] at hm w2
  have HM := Lib.hid hmm
  have w3 : Int.tdiv m 100 = m / 100 := Int.tdiv_eq_ediv_of_nonneg hm.1
  have HW := Lib.hid w3
  rw [HE.out]
  clear hmm w3 HE
  go_enter Tryz.func118, Tryz.ntmps118
  go_wp2
  refine bodyPost_ret (results_tmp rfl _ _ _) rfl ⟨?_, Below.refl _ _⟩
  show Ending.returned (.int .i64 (wrap64 ((wrap64 (d * (100 + s))).tdiv 100))) = _
  rw [← HM.out, w64 (x := m) (by omega) (by omega), HW.out, w64 (by omega) (by omega)]

def soundF (d sl sh er : Int) : Pr := (max 0 (strF d sl - er), strF d sh + er)
theorem strF_bd {d s : Int} (hd : 0 ≤ d ∧ d ≤ 40) (hs : 0 ≤ s ∧ s ≤ 20) : 0 ≤ strF d s ∧ strF d s ≤ 48 := by
  have hm := mul_le (d := d) (s := 100 + s) (D := 40) (S := 120) hd (by omega)
  unfold strF; omega

set_option maxHeartbeats 1000000 in
theorem sounded_c (d sl sh er : Int) (hd : 0 ≤ d ∧ d ≤ 40) (hl : 0 ≤ sl ∧ sl ≤ 20) (hh : 0 ≤ sh ∧ sh ≤ 20) (he : 0 ≤ er ∧ er ≤ 3) (w : World) :
    Calls Tryz.prog 89 #[.agg #[.int .i64 d, .int .i64 sl, .int .i64 sh, .int .i64 er]] w fun e w' => e = .returned (.agg #[.int .i64 (soundF d sl sh er).1, .int .i64 (soundF d sl sh er).2]) ∧ Below w.heap.size w w' := by
  have h1 := strF_bd hd hl
  have h2 := strF_bd hd hh
  have H1 := Lib.hid fun (w' : World) => stretched_c d sl (by omega) (by omega) w'
  have H2 := Lib.hid fun (w' : World) => stretched_c d sh (by omega) (by omega) w'
  have HE := Lib.hid (show soundF d sl sh er = (max 0 (strF d sl - er), strF d sh + er) from rfl)
  rw [HE.out]
  generalize strF d sl = a at *
  generalize strF d sh = b at *
  clear HE
  have w1 : IntKind.i64.wrap (a - er) = a - er := wI (by omega) (by omega)
  have w2 : IntKind.i64.wrap (b + er) = b + er := wI (by omega) (by omega)
  have F := Lib.hid ((Has.new w 88 #[.int .i64 d, .int .i64 sl, .int .i64 sh, .int .i64 er]).alloc (.cells #[.int .i64 0, .int .i64 0] 43))
  have Z := Lib.hid (Has.new' (w.alloc (.cells #[.int .i64 d, .int .i64 sl, .int .i64 sh, .int .i64 er] 88)) 43 #[.int .i64 0, .int .i64 0] (g := w.heap.size + 1) (by simp))
  have B := Lib.hid (newB (newB (Below.refl w.heap.size w) (.cells #[.int .i64 d, .int .i64 sl, .int .i64 sh, .int .i64 er] 88)) (.cells #[.int .i64 0, .int .i64 0] 43))
  go_enter Tryz.func89, Tryz.ntmps89
  go_wp2
  generalize (w.alloc (.cells #[.int .i64 d, .int .i64 sl, .int .i64 sh, .int .i64 er] 88)).alloc (.cells #[.int .i64 0, .int .i64 0] 43) = W at *
  refine wp_free 20 (by kernel_rfl) (by kernel_rfl) (by kernel_rfl) (by decide) ?_
  intro K hK
  repeat (apply Obl.val (by decide) rfl; (intro w' hb; have := (F.out.after hb).cell; go_simp; rfl))
  apply Obl.call (by decide) rfl; (intro w' hb; go_simp; exact ⟨rfl, rfl⟩); (intro w' hb; exact H1.out w')
  repeat (apply Obl.val (by decide) rfl; (intro w' hb; have := (F.out.after hb).cell; go_simp; rfl))
  apply Obl.call (by decide) rfl; (intro w' hb; go_simp; exact ⟨rfl, rfl⟩); (intro w' hb; exact H2.out w')
  repeat (apply Obl.val (by decide) rfl; (intro w' hb; have := (F.out.after hb).cell; go_simp; rfl))
  apply Obl.nil
  apply hK
  intro w3 hb
  simp only [Act.put, List.setIfInBounds_toArray, List.set_cons_zero, List.set_cons_succ, List.drop_succ_cons, List.drop_zero]
  clear hK K
  have Z2 := Lib.hid (Z.out.after hb)
  go_wp2_with (refine wpList_store_all rfl 43 _ _ rfl (w.heap.size + 1) rfl _ rfl 43 _ Z2.out (by kernel_rfl) rfl (by simp [Value.oneCell']) ?_)
  all_goals
    refine bodyPost_ret (results_cell_row Tryz.results89 _ _ (w.heap.size + 1) 43 _ (0, 0) _ rfl (Z2.out.setRow _) Tryz.underlying43 rfl (by kernel_rfl)) rfl ⟨?_, rowB (nextB B.out hb) (by omega) _⟩
    simp only [w1, w2] at *
    first
      | (rw [show max 0 (a - er) = 0 by omega])
      | (rw [show max 0 (a - er) = a - er by omega])
end Go.Proofs
namespace Go.Proofs
open Go.RowKit Go.Shelf Gas
attribute [local go_sem ↓] Go.wp_at_zero Go.wp_at_succ

def ranF (d l h : Int) : Pr := (d * l, (d + 1) * h - 1)
set_option maxHeartbeats 1000000 in
theorem ran_c (d l h x y : Int) (hd : 0 ≤ d ∧ d ≤ 20) (hl : 0 ≤ l ∧ l ≤ 60) (hh : 0 ≤ h ∧ h ≤ 60) (w : World) :
    Calls Tryz.prog 91 #[.agg #[.int .i64 d, .int .i64 l, .int .i64 h, .int .i64 x, .int .i64 y]] w fun e w' => e = .returned (.agg #[.int .i64 (ranF d l h).1, .int .i64 (ranF d l h).2]) ∧ Below w.heap.size w w' := by
  have m1 := mul_le (d := d) (s := l) (D := 20) (S := 60) hd hl
  have m2 := mul_le (d := d + 1) (s := h) (D := 21) (S := 60) (by omega) hh
  have a1 : wrap64 (d * l) = d * l := w64 (by omega) (by omega)
  have a2 : wrap64 ((d + 1) * h) = (d + 1) * h := w64 (by omega) (by omega)
  have a3 : wrap64 ((d + 1) * h - 1) = (d + 1) * h - 1 := w64 (by omega) (by omega)
  have a4 : IntKind.i64.wrap (d + 1) = d + 1 := wI (by omega) (by omega)
  have A1 := Lib.hid a1; have A2 := Lib.hid a2; have A3 := Lib.hid a3
  clear a1 a2 a3
  have Z := Lib.hid (Has.new' (w.alloc (.cells #[.int .i64 d, .int .i64 l, .int .i64 h, .int .i64 x, .int .i64 y] 92)) 43 #[.int .i64 0, .int .i64 0] (g := w.heap.size + 1) (by simp))
  have B := Lib.hid (newB (newB (Below.refl w.heap.size w) (.cells #[.int .i64 d, .int .i64 l, .int .i64 h, .int .i64 x, .int .i64 y] 92)) (.cells #[.int .i64 0, .int .i64 0] 43))
  go_enter Tryz.func91, Tryz.ntmps91
  go_wp2_with (refine wpList_store_all rfl 43 _ _ rfl (w.heap.size + 1) rfl _ rfl 43 _ Z.out (by kernel_rfl) rfl (by simp [Value.oneCell']) ?_)
  refine bodyPost_ret (results_cell_row Tryz.results91 _ _ (w.heap.size + 1) 43 _ (0, 0) _ rfl (Z.out.setRow _) Tryz.underlying43 rfl (by kernel_rfl)) rfl ⟨?_, rowB B.out (by omega) _⟩
  rfl

def narF (l h : Int) (xs : List Pr) : Pr := xs.foldl (fun a x => (max a.1 x.1, min a.2 x.2)) (l, h)
theorem narF_snoc (l h : Int) (xs : List Pr) (x : Pr) : narF l h (xs ++ [x]) = (max (narF l h xs).1 x.1, min (narF l h xs).2 x.2) := by simp [narF]

end Go.Proofs
namespace Go.Proofs
open Go.RowKit Go.Shelf Gas
attribute [local go_sem ↓] Go.wp_at_zero Go.wp_at_succ

set_option maxHeartbeats 1000000 in
theorem same_c (A B : Option Addr) (n c d : Nat) (xs : List Int) (hn : n ≤ 1000000) (w : World) (hA : SlOf inC 1 w A n xs) (hB : SlOf inC 1 w B n xs) : Calls Tryz.prog 55 #[.slice A n c, .slice B n d] w fun e w' => e = .returned (.bool true) ∧ Below w.heap.size w w' := by
  have HA := Lib.hid hA; have HB := Lib.hid hB; have HN := Lib.hid hA.1
  clear hA hB
  go_enter Tryz.func55, Tryz.ntmps55
  go_wp2
  go_loopw [5] (fun v wr => ∃ k : Nat, k ≤ n ∧ v = .int .i64 k ∧ Below w.heap.size w wr) (fun v _ => n - (intOf v).toNat)
  case atStart => exact ⟨0, by omega, rfl, Below.refl _ _⟩
  case round =>
    obtain ⟨k, hk, rfl, hb⟩ := hrel
    have HBw := Lib.hid hb
    clear hb
    by_cases hkn : k < n
    · have hkl : k < xs.length := by rw [HN.out]; exact hkn
      have hx := List.getElem?_eq_getElem hkl
      obtain ⟨x, hxx⟩ : ∃ x, x = xs[k] := ⟨_, rfl⟩
      rw [← hxx] at hx
      obtain ⟨a, oa, ha⟩ := HA.out.addr (by omega)
      obtain ⟨b, ob, hb⟩ := HB.out.addr (by omega)
      subst ha; subst hb
      have CA := Lib.hid fun (w' : World) (hb : Below wr.heap.size wr w') => (show w'.cell? ⟨a, oa + k, none⟩ = some (.int .i64 x) from by simpa using ((HA.out.keep (nextB HBw.out hb)).range inC_len hx) 0 _ rfl)
      have CB := Lib.hid fun (w' : World) (hb : Below wr.heap.size wr w') => (show w'.cell? ⟨b, ob + k, none⟩ = some (.int .i64 x) from by simpa using ((HB.out.keep (nextB HBw.out hb)).range inC_len hx) 0 _ rfl)
      clear hx hxx
      go_wp2
      refine wp_free 9 (by kernel_rfl) (by kernel_rfl) (by kernel_rfl) (by decide) ?_
      intro K hK
      repeat (apply Obl.val (by decide) rfl; (intro w' hb; have := CA.out w' hb; have := CB.out w' hb; go_simp; rfl))
      apply Obl.nil
      apply hK
      intro w2 hb
      simp only [Act.put, List.setIfInBounds_toArray, List.set_cons_zero, List.set_cons_succ, List.drop_succ_cons, List.drop_zero]
      clear hK K
      have HB2 := Lib.hid (nextB HBw.out hb)
      clear hb
      go_wp2
      go_roundw
      case rel => exact ⟨k + 1, by omega, by go_num, HB2.out⟩
      case measure => simp [intOf]; omega
    · go_wp2
      exact bodyPost_ret (results_tmp rfl _ _ _) rfl ⟨rfl, HBw.out⟩
end Go.Proofs
namespace Go.Proofs
open Go.RowKit Go.Shelf Gas
attribute [local go_sem ↓] Go.wp_at_zero Go.wp_at_succ

set_option maxHeartbeats 1000000 in
theorem sameSpans_c (A B : Option Addr) (n c d : Nat) (xs : List Pr) (hn : n ≤ 1000000) (w : World) (hA : SlOf prC 2 w A n xs) (hB : SlOf prC 2 w B n xs) : Calls Tryz.prog 54 #[.slice A n c, .slice B n d] w fun e w' => e = .returned (.bool true) ∧ Below w.heap.size w w' := by
  have HA := Lib.hid hA; have HB := Lib.hid hB; have HN := Lib.hid hA.1
  clear hA hB
  go_enter Tryz.func54, Tryz.ntmps54
  go_wp2
  go_loopw [5] (fun v wr => ∃ k : Nat, k ≤ n ∧ v = .int .i64 k ∧ Below w.heap.size w wr) (fun v _ => n - (intOf v).toNat)
  case atStart => exact ⟨0, by omega, rfl, Below.refl _ _⟩
  case round =>
    obtain ⟨k, hk, rfl, hb⟩ := hrel
    have HBw := Lib.hid hb
    clear hb
    by_cases hkn : k < n
    · have hkl : k < xs.length := by rw [HN.out]; exact hkn
      have hx := List.getElem?_eq_getElem hkl
      obtain ⟨x, hxx⟩ : ∃ x, x = xs[k] := ⟨_, rfl⟩
      rw [← hxx] at hx
      obtain ⟨a, oa, ha⟩ := HA.out.addr (by omega)
      obtain ⟨b, ob, hb⟩ := HB.out.addr (by omega)
      subst ha; subst hb
      obtain ⟨x0, x1⟩ := x
      have CA := Lib.hid fun (w' : World) (hb : Below wr.heap.size wr w') => (show w'.cell? ⟨a, oa + k * 2, none⟩ = some (.int .i64 x0) ∧ w'.cell? ⟨a, oa + k * 2 + 1, none⟩ = some (.int .i64 x1) from ⟨((HA.out.keep (nextB HBw.out hb)).range prC_len hx) 0 _ rfl, ((HA.out.keep (nextB HBw.out hb)).range prC_len hx) 1 _ rfl⟩)
      have CB := Lib.hid fun (w' : World) (hb : Below wr.heap.size wr w') => (show w'.cell? ⟨b, ob + k * 2, none⟩ = some (.int .i64 x0) ∧ w'.cell? ⟨b, ob + k * 2 + 1, none⟩ = some (.int .i64 x1) from ⟨((HB.out.keep (nextB HBw.out hb)).range prC_len hx) 0 _ rfl, ((HB.out.keep (nextB HBw.out hb)).range prC_len hx) 1 _ rfl⟩)
      clear hx hxx
      go_wp2
      refine wp_free 9 (by kernel_rfl) (by kernel_rfl) (by kernel_rfl) (by decide) ?_
      intro K hK
      repeat (apply Obl.val (by decide) rfl; (intro w' hb; obtain ⟨p1, p2⟩ := CA.out w' hb; obtain ⟨q1, q2⟩ := CB.out w' hb; go_simp; rfl))
      apply Obl.nil
      apply hK
      intro w2 hb
      simp only [Act.put, List.setIfInBounds_toArray, List.set_cons_zero, List.set_cons_succ, List.drop_succ_cons, List.drop_zero]
      clear hK K
      have HB2 := Lib.hid (nextB HBw.out hb)
      clear hb
      go_wp2
      go_roundw
      case rel => exact ⟨k + 1, by omega, by go_num, HB2.out⟩
      case measure => simp [intOf]; omega
    · go_wp2
      exact bodyPost_ret (results_tmp rfl _ _ _) rfl ⟨rfl, HBw.out⟩
end Go.Proofs
namespace Go.Proofs
open Go.RowKit Go.Shelf Gas
attribute [local go_sem ↓] Go.wp_at_zero Go.wp_at_succ

set_option maxHeartbeats 1000000 in
theorem narrow_c (l h : Int) (A : Option Addr) (n c : Nat) (xs : List Pr) (hn : n ≤ 1000000) (hok : (narF l h xs).1 ≤ (narF l h xs).2) (w : World) (hs : SlOf prC 2 w A n xs) :
    Calls Tryz.prog 120 #[.agg #[.int .i64 l, .int .i64 h], .slice A n c] w fun e w' => e = .returned (.agg #[.int .i64 (narF l h xs).1, .int .i64 (narF l h xs).2]) ∧ Below w.heap.size w w' := by
  have HS := Lib.hid hs; have HN := Lib.hid hs.1; have HOK := Lib.hid hok
  clear hs hok
  have F := Lib.hid ((Has.new w 43 #[.int .i64 l, .int .i64 h]).alloc (.cells #[.int .i64 0, .int .i64 0] 43))
  have Z := Lib.hid (Has.new' (w.alloc (.cells #[.int .i64 l, .int .i64 h] 43)) 43 #[.int .i64 0, .int .i64 0] (g := w.heap.size + 1) (by simp))
  have B := Lib.hid (newB (newB (Below.refl w.heap.size w) (.cells #[.int .i64 l, .int .i64 h] 43)) (.cells #[.int .i64 0, .int .i64 0] 43))
  have H0 := Lib.hid (show (#[.int .i64 l, .int .i64 h] : Array Value) = #[.int .i64 (narF l h (xs.take 0)).1, .int .i64 (narF l h (xs.take 0)).2] from rfl)
  go_enter Tryz.func120, Tryz.ntmps120
  go_wp2
  go_loopw [9] (fun v wr => ∃ k : Nat, k ≤ n ∧ v = .int .i64 k ∧ Below w.heap.size w wr ∧ Has wr w.heap.size 43 #[.int .i64 (narF l h (xs.take k)).1, .int .i64 (narF l h (xs.take k)).2] ∧ Has wr (w.heap.size + 1) 43 #[.int .i64 0, .int .i64 0]) (fun v _ => n - (intOf v).toNat)
  case atStart => exact ⟨0, by omega, rfl, B.out, F.out.eq H0.out, Z.out⟩
  case round =>
    obtain ⟨k, hk, rfl, hB, hF, hZ⟩ := hrel
    have HB := Lib.hid hB; have HF := Lib.hid hF; have HZ := Lib.hid hZ
    have hc := hF.cell; have hf := hF.frozen; have hz := hZ.lt
    clear hB hF hZ
    by_cases hkn : k < n
    · have hkl : k < xs.length := by rw [HN.out]; exact hkn
      obtain ⟨b, o, he⟩ := HS.out.addr (by omega)
      have hx := List.getElem?_eq_getElem hkl
      have HT := Lib.hid (List.take_append_getElem hkl)
      obtain ⟨x, hxx⟩ : ∃ x, x = xs[k] := ⟨_, rfl⟩
      rw [← hxx] at hx HT
      subst he
      have hR := Lib.hid ((HS.out.keep HB.out).range prC_len hx)
      clear hx hxx
      obtain ⟨x0, x1⟩ := x
      replace hR := Lib.hid (show wr.rangeAt b (o + k * 2) [.int .i64 x0, .int .i64 x1] from hR.out)
      have HSn := Lib.hid (show narF l h (xs.take (k + 1)) = (max (narF l h (xs.take k)).1 x0, min (narF l h (xs.take k)).2 x1) by rw [← HT.out]; exact narF_snoc _ _ _ _)
      generalize (narF l h (xs.take k)).1 = a at *
      generalize (narF l h (xs.take k)).2 = bb at *
      go_wp2_with (refine wpList_load_mid rfl 43 _ rfl b (o + k * 2) rfl _ _ hR.out Tryz.underlying43 rfl (by kernel_rfl) ?_)
      have HB2 := Lib.hid (newB HB.out (.cells #[.int .i64 x0, .int .i64 x1] 43))
      have HF2 := Lib.hid (HF.out.alloc (.cells #[.int .i64 x0, .int .i64 x1] 43)); have HZ2 := Lib.hid (HZ.out.alloc (.cells #[.int .i64 x0, .int .i64 x1] 43))
      have N2 := Lib.hid (Has.new wr 43 #[.int .i64 x0, .int .i64 x1])
      generalize wr.alloc (.cells #[.int .i64 x0, .int .i64 x1] 43) = W at *
      clear hc hf
      have HC := Lib.hid fun (w' : World) (hb : Below W.heap.size W w') => (⟨(HF2.out.after hb).cell 0, (HF2.out.after hb).cell 1, (N2.out.after hb).cell 0, (N2.out.after hb).cell 1⟩ : w'.cell? ⟨w.heap.size, 0, none⟩ = some (.int .i64 a) ∧ w'.cell? ⟨w.heap.size, 1, none⟩ = some (.int .i64 bb) ∧ w'.cell? ⟨wr.heap.size, 0, none⟩ = some (.int .i64 x0) ∧ w'.cell? ⟨wr.heap.size, 1, none⟩ = some (.int .i64 x1))
      have hc := HF2.out.cell; have hf := HF2.out.frozen; have hn := N2.out.cell
      have hne1 : ¬ w.heap.size = wr.heap.size := by omega
      have hne2 : ¬ wr.heap.size = w.heap.size := by omega
      go_region
      clear hc hf hn
      go_wp2
      all_goals
        go_roundw
        case rel => exact ⟨k + 1, by omega, by go_num, (setB (setB HB2.out (by show w.heap.size ≤ w.heap.size; omega) _) (by show w.heap.size ≤ w.heap.size; omega) _).drew, (((HF2.out.set 0 _).set 1 _).drew).eq (by rw [HSn.out]; simp; constructor <;> (split <;> omega)), ((HZ2.out.far (by show w.heap.size + 1 ≠ w.heap.size; omega) _).far (by show w.heap.size + 1 ≠ w.heap.size; omega) _).drew⟩
        case measure => simp [intOf]; omega
    · have hke : k = n := by omega
      subst hke
      have ht : xs.take k = xs := List.take_of_length_le (by rw [HN.out]; exact Nat.le_refl _)
      rw [ht] at HF hc
      have hle := HOK.out
      clear ht
      have hnle : ¬ (narF l h xs).2 < (narF l h xs).1 := by omega
      go_wp2_with (first
        | (refine wpList_load_row rfl 43 _ rfl w.heap.size rfl 43 _ (0, 0) _ HF.out Tryz.underlying43 rfl (by kernel_rfl) ?_)
        | (refine wpList_store_all rfl 43 _ _ rfl (w.heap.size + 1) rfl _ rfl 43 _ HZ.out (by kernel_rfl) rfl (by simp [Value.oneCell']) ?_))
      exact bodyPost_ret (results_cell_row Tryz.results120 _ _ (w.heap.size + 1) 43 _ (0, 0) _ rfl (HZ.out.setRow _) Tryz.underlying43 rfl (by kernel_rfl)) rfl ⟨rfl, rowB HB.out (by omega) _⟩
end Go.Proofs
namespace Go.Proofs
open Go.RowKit Go.Shelf Gas
attribute [local go_sem ↓] Go.wp_at_zero Go.wp_at_succ

def leftF (xs : List Pr) : Pr := narF (xs.getD 0 (0, 0)).1 (xs.getD 0 (0, 0)).2 (xs.drop 1)

theorem SlOf.tl {w : World} {b o n : Nat} {x : Pr} {ys : List Pr} (h : SlOf prC 2 w (some ⟨b, o, none⟩) n (x :: ys)) : SlOf prC 2 w (some ⟨b, o + 2, none⟩) (n - 1) ys := by
  have hl : ys.length + 1 = n := h.1
  refine ⟨by omega, by rw [flat_len prC_len]; congr 1; omega, fun hn => ⟨b, o + 2, rfl, fun j u hu => ?_⟩⟩
  obtain ⟨b', o', e, hc⟩ := h.2.2 (by omega)
  cases e
  have := hc (2 + j) u (by
    show (prC x ++ flat prC ys)[2 + j]? = some u
    rw [List.getElem?_append_right (by rw [prC_len]; omega), prC_len, show 2 + j - 2 = j by omega]; exact hu)
  rw [Nat.add_assoc]; exact this
set_option maxHeartbeats 1000000 in
theorem left1_c (x0 x1 : Int) (b o n c : Nat) (ys : List Pr) (hn : n ≤ 1000000) (hn2 : 1 ≤ n) (hc : n ≤ c) (hok : (narF x0 x1 ys).1 ≤ (narF x0 x1 ys).2) (tb rb : Nat) (w : World) (hs : SlOf prC 2 w (some ⟨b, o, none⟩) n ((x0, x1) :: ys)) (ht : Has w tb 26 #[.slice (some ⟨b, o, none⟩) n c]) (hr : Has w rb 43 #[.int .i64 0, .int .i64 0]) :
    Calls Tryz.prog 119 #[.pointer (some ⟨tb, 0, none⟩), .pointer (some ⟨rb, 0, none⟩)] w fun e w' => (∃ v, e = .returned v) ∧ ∃ w1, Below w.heap.size w w1 ∧ w' = w1.setRow rb #[.int .i64 (narF x0 x1 ys).1, .int .i64 (narF x0 x1 ys).2] := by
  have CA := Lib.hid fun (w' : World) (hb : Below w.heap.size w w') => (show w'.cell? ⟨b, o, none⟩ = some (.int .i64 x0) ∧ w'.cell? ⟨b, o + 1, none⟩ = some (.int .i64 x1) from ⟨by simpa using ((hs.keep hb).range prC_len (k := 0) rfl) 0 _ rfl, by simpa using ((hs.keep hb).range prC_len (k := 0) rfl) 1 _ rfl⟩)
  have HT := Lib.hid ht; have HR := Lib.hid hr
  have HN := Lib.hid fun (w' : World) (hb : Below w.heap.size w w') => narrow_c x0 x1 (if c = 1 then some ⟨b, o, none⟩ else some ⟨b, o + 2, none⟩) (n - 1) (c - 1) ys (by omega) hok w' (by
    by_cases hc1 : c = 1
    · rw [if_pos hc1]
      have hl : ys.length + 1 = n := hs.1
      have hy : ys = [] := List.eq_nil_of_length_eq_zero (by omega)
      subst hy
      have hn1 : n - 1 = 0 := by omega
      rw [hn1]
      exact ⟨rfl, by simp [flat], fun h => absurd h (by omega)⟩
    · rw [if_neg hc1]; exact (hs.keep hb).tl)
  clear hs ht hr
  have i0 : 0 < n := by omega
  have i1 : (0 : Int) < n := by omega
  have i2 : (1 : Int) ≤ n := by omega
  have i3 : (n : Int) ≤ c := by omega
  go_enter Tryz.func119, Tryz.ntmps119
  go_wp2
  refine wp_free 5 (by kernel_rfl) (by kernel_rfl) (by kernel_rfl) (by decide) ?_
  intro K hK
  repeat (apply Obl.val (by decide) rfl; (intro w' hb; obtain ⟨p1, p2⟩ := CA.out w' hb; have := (HT.out.after hb).cell; go_simp; rfl))
  apply Obl.nil
  apply hK
  intro w2 hb
  simp only [Act.put, List.setIfInBounds_toArray, List.set_cons_zero, List.set_cons_succ, List.drop_succ_cons, List.drop_zero]
  clear hK K
  have HB := Lib.hid hb; have HR2 := Lib.hid (HR.out.after hb)
  clear hb
  go_wp2_with (first
    | (go_at_call 120; refine (HN.out _ HB.out).mono ?_; rintro e w3 ⟨rfl, hb3⟩; have HB3 := Lib.hid (nextB HB.out hb3); have HR3 := Lib.hid (HR2.out.after hb3); clear hb3)
    | (refine wpList_store_all rfl 43 _ _ rfl rb rfl _ rfl 43 _ HR3.out (by kernel_rfl) rfl (by simp [Value.oneCell']) ?_))
  all_goals
    go_end0
    exact ⟨⟨_, rfl⟩, w3, HB3.out, rfl⟩
end Go.Proofs
namespace Go.Proofs
open Go.RowKit Go.Shelf Gas
attribute [local go_sem ↓] Go.wp_at_zero Go.wp_at_succ

/-- Where nothing panicked, attempt's deferred closure does nothing. -/
theorem idle_c (p : Addr) (w : World) : CallsD Tryz.prog 115 #[.pointer (some p)] .returning w fun e u' w' => (∃ v, e = .returned v) ∧ u' = .returning ∧ w' = w := by
  refine callsD_of_wpS Tryz.func115 rfl fun c₀ cs hu => ?_
  apply wpS_seq
  apply wpS_region
  simp [wpOpsS, go_sem, recoverD, hu, Tryz.ntmps115, Exit.thenS]
  refine wpS_of_wp ?_
  simp only [Array.replicate_succ, Array.replicate_zero, List.push_toArray, List.append_toArray, List.nil_append, List.cons_append, List.setIfInBounds_toArray, List.set_cons_zero, List.set_cons_succ]
  go_wp2

  cases c₀
  simp_all [bodyPostS, results, Tryz.results115]

theorem attempt_c (gc : FuncId) (cap : Array Value) (eg : ∀ args w, (callFunc gc args).run Tryz.prog w = .ok (.enter gc args) w) (w : World) (Rr : World → Prop)
    (hf : Calls Tryz.prog gc cap (w.alloc (.cells #[.int .i64 0] 34)) fun e w' => (∃ v, e = .returned v) ∧ Rr w' ∧ Has w' w.heap.size 34 #[.int .i64 0]) :
    Calls Tryz.prog 80 #[.func (.func gc) #[] cap] w fun e w' => e = .returned (.int .i64 0) ∧ ∃ w1, Rr w1 ∧ w' = w1.setCell ⟨w.heap.size, 0, none⟩ (.int .i64 0) := by
  have HF := Lib.hid hf
  clear hf
  have hmf : ∀ (fn : Fn) (first cap : Array Value) (w : World), (Instr.makeFunc fn first cap).run Tryz.prog w = .ok (.func fn first cap) w := fun _ _ _ _ => rfl
  go_enter_defers Tryz.func80, Tryz.ntmps80
  go_wp2_with (refine HF.out.mono ?_; rintro e w1 ⟨⟨v, rfl⟩, hR, hH⟩; have HR := Lib.hid hR; have HH := Lib.hid hH; have c1 := hH.cell; have f1 := hH.frozen; clear hR hH)
  refine leaves_cons (f := 115) (args := #[.pointer (some ⟨w.heap.size, 0, none⟩)]) (by simp) (by simp [go_sem]) ?_
  refine (idle_c _ _).mono ?_
  rintro e u' w'' ⟨⟨v', rfl⟩, rfl, rfl⟩
  have hq := (HH.out.set 0 (.int .i64 0)).cell 0
  have hq' : (w1.setCell ⟨w.heap.size, 0, none⟩ (.int .i64 0)).cell? ⟨w.heap.size, 0, none⟩ = some (.int .i64 0) := hq
  exact ⟨.int .i64 0, by simp [results, Tryz.results80, go_sem, hq'], rfl, w1, HR.out, rfl⟩
end Go.Proofs
namespace Go.Proofs
open Go.RowKit Go.Shelf Gas
attribute [local go_sem ↓] Go.wp_at_zero Go.wp_at_succ

set_option maxHeartbeats 1000000 in
theorem left_c (x0 x1 : Int) (b o n c : Nat) (ys : List Pr) (hn : n ≤ 1000000) (hn2 : 1 ≤ n) (hc : n ≤ c) (hok : (narF x0 x1 ys).1 ≤ (narF x0 x1 ys).2) (w : World) (hs : SlOf prC 2 w (some ⟨b, o, none⟩) n ((x0, x1) :: ys)) :
    Calls Tryz.prog 90 #[.slice (some ⟨b, o, none⟩) n c] w fun e w' => e = .returned (.tuple #[.agg #[.int .i64 (narF x0 x1 ys).1, .int .i64 (narF x0 x1 ys).2], .int .i64 0]) ∧ Below w.heap.size w w' := by
  have B3 := Lib.hid (newB (newB (newB (Below.refl w.heap.size w) (.cells #[.slice (some ⟨b, o, none⟩) n c] 26)) (.cells #[.int .i64 0, .int .i64 0] 43)) (.cells #[.int .i64 0, .int .i64 0] 43))
  have T0 := Lib.hid (((Has.new w 26 #[.slice (some ⟨b, o, none⟩) n c]).alloc (.cells #[.int .i64 0, .int .i64 0] 43)).alloc (.cells #[.int .i64 0, .int .i64 0] 43))
  have Z0 := Lib.hid ((Has.new' (w.alloc (.cells #[.slice (some ⟨b, o, none⟩) n c] 26)) 43 #[.int .i64 0, .int .i64 0] (g := w.heap.size + 1) (by simp)).alloc (.cells #[.int .i64 0, .int .i64 0] 43))
  have R0 := Lib.hid (Has.new' ((w.alloc (.cells #[.slice (some ⟨b, o, none⟩) n c] 26)).alloc (.cells #[.int .i64 0, .int .i64 0] 43)) 43 #[.int .i64 0, .int .i64 0] (g := w.heap.size + 1 + 1) (by simp))
  have hsz : (((w.alloc (.cells #[.slice (some ⟨b, o, none⟩) n c] 26)).alloc (.cells #[.int .i64 0, .int .i64 0] 43)).alloc (.cells #[.int .i64 0, .int .i64 0] 43)).heap.size = w.heap.size + 1 + 1 + 1 := by simp
  have HC := Lib.hid fun (W : World) (hb : Below w.heap.size w W) (hw : W.heap.size = w.heap.size + 1 + 1 + 1) (ht : Has W w.heap.size 26 #[.slice (some ⟨b, o, none⟩) n c]) (hr : Has W (w.heap.size + 1 + 1) 43 #[.int .i64 0, .int .i64 0]) =>
    attempt_c 119 #[.pointer (some ⟨w.heap.size, 0, none⟩), .pointer (some ⟨w.heap.size + 1 + 1, 0, none⟩)] (enters_of Tryz.func119 (by kernel_rfl) rfl) W (fun w' => ∃ w1, Below (W.alloc (.cells #[.int .i64 0] 34)).heap.size (W.alloc (.cells #[.int .i64 0] 34)) w1 ∧ w' = w1.setRow (w.heap.size + 1 + 1) #[.int .i64 (narF x0 x1 ys).1, .int .i64 (narF x0 x1 ys).2])
      ((left1_c x0 x1 b o n c ys hn hn2 hc hok w.heap.size (w.heap.size + 1 + 1) (W.alloc (.cells #[.int .i64 0] 34)) (hs.keep (newB hb _)) (ht.alloc _) (hr.alloc _)).mono fun e w' ⟨h1, w1, h2, h3⟩ => ⟨h1, ⟨w1, h2, h3⟩, by rw [h3]; exact ((Has.new W 34 _).after h2).setRow_far (by omega) _⟩)
  clear hs
  go_enter Tryz.func90, Tryz.ntmps90
  go_wp2_with (first
    | (go_at_call 80; refine (HC.out _ B3.out hsz T0.out R0.out).mono ?_; rintro e w4 ⟨rfl, w2, ⟨w1, hb1, rfl⟩, rfl⟩; have hb2 := newB (Below.refl _ _) (.cells #[.int .i64 0] 34) |>.trans (hb1.mono (by simp)); have HB := Lib.hid (nextB B3.out hb2); have Z1 := Lib.hid (Z0.out.after hb2); have R1 := Lib.hid (R0.out.after hb2); have R2 := Lib.hid ((R1.out.setRow #[.int .i64 (narF x0 x1 ys).1, .int .i64 (narF x0 x1 ys).2]).far (p := ⟨w.heap.size + 1 + 1 + 1, 0, none⟩) (by show w.heap.size + 1 + 1 ≠ w.heap.size + 1 + 1 + 1; omega) (.int .i64 0)); have Z2 := Lib.hid ((Z1.out.setRow_far (show w.heap.size + 1 ≠ w.heap.size + 1 + 1 by omega) #[.int .i64 (narF x0 x1 ys).1, .int .i64 (narF x0 x1 ys).2]).far (p := ⟨w.heap.size + 1 + 1 + 1, 0, none⟩) (by show w.heap.size + 1 ≠ w.heap.size + 1 + 1 + 1; omega) (.int .i64 0)); have HB2 := Lib.hid (setB (rowB HB.out (show w.heap.size ≤ w.heap.size + 1 + 1 by omega) #[.int .i64 (narF x0 x1 ys).1, .int .i64 (narF x0 x1 ys).2]) (p := ⟨w.heap.size + 1 + 1 + 1, 0, none⟩) (show w.heap.size ≤ w.heap.size + 1 + 1 + 1 by omega) (.int .i64 0)); clear hb1 hb2)
    | (refine wpList_load_row rfl 43 _ rfl (w.heap.size + 1 + 1) rfl 43 _ (0, 0) _ R2.out Tryz.underlying43 rfl (by kernel_rfl) ?_)
    | (refine wpList_store_all rfl 43 _ _ rfl (w.heap.size + 1) rfl _ rfl 43 _ Z2.out (by kernel_rfl) rfl (by simp [Value.oneCell']) ?_))
  exact bodyPost_ret (results_row_tmp Tryz.results90 _ _ (w.heap.size + 1) 43 _ (0, 0) _ rfl (Z2.out.setRow _) Tryz.underlying43 rfl (by kernel_rfl)) rfl ⟨rfl, rowB HB2.out (by omega) _⟩
end Go.Proofs
namespace Go.Proofs
open Go.RowKit Go.Shelf Gas
attribute [local go_sem ↓] Go.wp_at_zero Go.wp_at_succ

set_option maxHeartbeats 2000000 in
theorem Minutes_c (d l h x y : Int) (hd : inB d 0 20 = true) (hl : ordB l h 1 60 60 = true) (hx : ordB x y 0 1260 1260 = true) (hok : (narF (ranF d l h).1 (ranF d l h).2 [(x, y)]).1 ≤ (narF (ranF d l h).1 (ranF d l h).2 [(x, y)]).2) (w : World) :
    Calls Tryz.prog 44 #[.agg #[.int .i64 d, .int .i64 l, .int .i64 h, .int .i64 x, .int .i64 y]] w fun e w' => e = .returned (.tuple #[.agg #[.int .i64 (narF (ranF d l h).1 (ranF d l h).2 [(x, y)]).1, .int .i64 (narF (ranF d l h).1 (ranF d l h).2 [(x, y)]).2], .int .i64 0]) ∧ Below w.heap.size w w' := by
  have h1 := of_decide_eq_true hd
  have h2 := of_decide_eq_true hl
  have HD := Lib.hid hd; have HL := Lib.hid hl; have HX := Lib.hid hx
  have HR := Lib.hid fun (w' : World) => ran_c d l h x y (by omega) (by omega) (by omega) w'
  have HLe := Lib.hid fun (w' : World) (B : Nat) (hs : SlOf prC 2 w' (some ⟨B, 0, none⟩) 2 [((ranF d l h).1, (ranF d l h).2), (x, y)]) => left_c (ranF d l h).1 (ranF d l h).2 B 0 2 2 [(x, y)] (by omega) (by omega) (by omega) hok w' hs
  clear hd hl hx hok h1 h2
  generalize narF (ranF d l h).1 (ranF d l h).2 [(x, y)] = res at *
  generalize ranF d l h = rf at *
  obtain ⟨r1, r2⟩ := rf
  have F := Lib.hid ((Has.new w 92 #[.int .i64 d, .int .i64 l, .int .i64 h, .int .i64 x, .int .i64 y]).alloc (.cells #[.int .i64 0, .int .i64 0] 43))
  have Z := Lib.hid (Has.new' (w.alloc (.cells #[.int .i64 d, .int .i64 l, .int .i64 h, .int .i64 x, .int .i64 y] 92)) 43 #[.int .i64 0, .int .i64 0] (g := w.heap.size + 1) (by simp))
  have B0 := Lib.hid (newB (newB (Below.refl w.heap.size w) (.cells #[.int .i64 d, .int .i64 l, .int .i64 h, .int .i64 x, .int .i64 y] 92)) (.cells #[.int .i64 0, .int .i64 0] 43))
  go_enter Tryz.func44, Tryz.ntmps44
  go_wp2_with (first
    | (go_at_call 87; refine (within_c d 0 20 _).mono ?_; rintro e w1 ⟨rfl, rfl⟩; rw [HD.out])
    | (go_at_call 88; refine (ordered_c _ _ _ _ _ (by omega) (by omega) _).mono ?_; rintro e w2 ⟨rfl, hb⟩; (first | (rw [HL.out]; have HB1 := Lib.hid (nextB B0.out hb); have F1 := Lib.hid (F.out.after hb); have Z1 := Lib.hid (Z.out.after hb); have c1 := F1.out.cell) | (rw [HX.out]; have HB2 := Lib.hid (nextB HB1.out hb); have F2 := Lib.hid (F1.out.after hb); have Z2 := Lib.hid (Z1.out.after hb))); clear hb))
  refine wp_free1 6 5 140 #[.int .i64 0, .int .i64 0, .int .i64 0, .int .i64 0] (by kernel_rfl) (by kernel_rfl) (by kernel_rfl) (by decide) (by decide) rfl ⟨rfl, fun a w => by kernel_rfl⟩ ?_
  intro K hK
  refine Obl.row (by decide) rfl 92 _ rfl w.heap.size rfl 92 _ _ F2.out Tryz.underlying92 rfl (by kernel_rfl) ?_
  apply Obl.call (by decide) rfl; (intro w' hb; go_simp; exact ⟨rfl, rfl⟩); (intro w' hb; exact HR.out w')
  repeat (apply Obl.val (by decide) rfl; (intro w' hb; have := (F2.out.after hb).cell; go_simp; rfl))
  apply Obl.makes
  apply Obl.nil
  apply hK
  intro B5 w5 hb hBB hB
  simp only [Act.put, List.setIfInBounds_toArray, List.set_cons_zero, List.set_cons_succ, List.drop_succ_cons, List.drop_zero]
  clear hK K
  have HB5 := Lib.hid hB
  have hB5w : w.heap.size ≤ B5 := by have := HB2.out.size; omega
  have HW5 := Lib.hid (rowB (nextB HB2.out hb) hB5w #[.int .i64 r1, .int .i64 r2, .int .i64 x, .int .i64 y])
  have Z5 := Lib.hid ((Z2.out.after hb).setRow_far (show w.heap.size + 1 ≠ B5 by have := Z2.out.lt; omega) #[.int .i64 r1, .int .i64 r2, .int .i64 x, .int .i64 y])
  have R5 := Lib.hid (hB.setRow #[.int .i64 r1, .int .i64 r2, .int .i64 x, .int .i64 y])
  clear hb hB
  have HLf := Lib.hid (HLe.out _ B5 (SlOf.of_cells prC_len R5.out rfl rfl))
  go_wp2_with (first
    | (refine wpList_store_all rfl 140 _ _ rfl B5 rfl _ rfl 140 _ HB5.out (by kernel_rfl) rfl (by simp [Value.oneCell']) ?_)
    | (go_at_call 90; refine HLf.out.mono ?_; rintro e w6 ⟨rfl, hb6⟩; have HB6 := Lib.hid (nextB HW5.out hb6); have Z6 := Lib.hid (Z5.out.after hb6); clear hb6)
    | (refine wpList_store_all rfl 43 _ _ rfl (w.heap.size + 1) rfl _ rfl 43 _ Z6.out (by kernel_rfl) rfl (by simp [Value.oneCell']) ?_))
  exact bodyPost_ret (results_row_tmp Tryz.results44 _ _ (w.heap.size + 1) 43 _ (0, 0) _ rfl (Z6.out.setRow _) Tryz.underlying43 rfl (by kernel_rfl)) rfl ⟨rfl, rowB HB6.out (by omega) _⟩
end Go.Proofs
namespace Go.Proofs
open Go.RowKit Go.Shelf Gas
attribute [local go_sem ↓] Go.wp_at_zero Go.wp_at_succ

/-- A sounding. -/
structure So where
  (d l h e : Int)
def So.cs (s : So) : List Value := [.int .i64 s.d, .int .i64 s.l, .int .i64 s.h, .int .i64 s.e]
theorem So.cs_len (s : So) : s.cs.length = 4 := rfl
def soB (s : So) : Bool := inB s.d 0 40 && ordB s.l s.h 0 20 20 && inB s.e 0 3
def soF (s : So) : Pr := soundF s.d s.l s.h s.e

theorem wpList_app51 {ops : Array Oper} {rest : List Oper} {o : Oper} {a : Act} {w : World} {Q : Exit → Act → World → Prop} (hgd : o.guard = none) (s x : Operand)
    (ho : o.op = .call { callee := .builtin .append, args := #[s, x], argTypes := #[26, 26] })
    (base : Nat) (v : Value) (xs : List Pr) (hs : a.eval s = v) (hown : w.ownsRow base 43 2 v xs.length (flat prC xs)) (hlen : xs.length ≤ 1000000)
    (b : Nat) (y : Pr) (hx : a.eval x = .slice (some ⟨b, 0, none⟩) 1 1) (hb : Has w b 43 #[.int .i64 y.1, .int .i64 y.2]) (hbase : base ≤ w.heap.size)
    (h : ∀ v' w', w'.ownsRow base 43 2 v' (xs ++ [y]).length (flat prC (xs ++ [y])) → Below base w w' → (∀ g t cs, Has w g t cs → t ≠ 43 → Has w' g t cs) → (∀ g cs, v.ownBlock ≠ some g → Has w g 43 cs → Has w' g 43 cs) → wpList Tryz.prog ops Q rest (a.put o.dst v') w') : wpList Tryz.prog ops Q (o :: rest) a w := by
  obtain ⟨i, hi, hz, hby, hsz⟩ := info24
  refine wpList_append_own w hgd s x 26 ho base 43 i _ 2 16 (by kernel_rfl) hi hz hsz hby rfl (by omega) v xs.length _ hs hown ⟨b, 0, none⟩ 1 1 [.int .i64 y.1, .int .i64 y.2] hx rfl ?_ (by simp [Value.oneCell']) (by unfold maxLen; omega) (by omega) hbase
    (fun v' w' e1 e2 _ => h v' w' (by rw [flat_append]; simpa [flat, prC] using e1) (below_grown e2 (fun r hr => (hown.lt r hr).1) hbase) (fun g t cs hg ht => (Spares.of_grown hown e2).has hg ht) (fun g cs hne hg => (e2.block g hg.lt (fun e => hne e.symm)).trans hg))
  intro j u hu
  have hadd : (⟨b, 0, none⟩ : Addr).add j = ⟨b, j, none⟩ := by unfold Addr.add; split <;> simp_all
  rw [hadd, hb.cell j]
  simpa using hu

theorem owns_keep {w w' : World} {base size n : Nat} {e : TypeId} {v : Value} {xs : List Value} (h : w.ownsRow base e size v n xs) (hb : Below w.heap.size w w') : w'.ownsRow base e size v n xs := by
  refine ⟨h.1, ?_⟩
  rcases h.2 with h | ⟨g, cap, cur, e1, e2, e3, e4⟩
  · exact .inl h
  · exact .inr ⟨g, cap, cur, e1, e2, (hb.block g (Array.getElem?_eq_some_iff.1 e3).1).trans e3, e4⟩
set_option maxHeartbeats 4000000 in
theorem Depth_c (A : Option Addr) (n c : Nat) (xs : List So) (x0 x1 : Int) (ys : List Pr) (hn : inB n 1 4 = true) (hall : ∀ s ∈ xs, soB s = true) (hL : xs.map soF = (x0, x1) :: ys) (hok : (narF x0 x1 ys).1 ≤ (narF x0 x1 ys).2) (w : World) (hs : SlOf So.cs 4 w A n xs) :
    Calls Tryz.prog 42 #[.slice A n c] w fun e w' => e = .returned (.tuple #[.agg #[.int .i64 (narF x0 x1 ys).1, .int .i64 (narF x0 x1 ys).2], .int .i64 0]) ∧ Below w.heap.size w w' := by
  have hn4 := of_decide_eq_true hn
  have HI := Lib.hid hn; have HS := Lib.hid hs; have HN := Lib.hid hs.1; have HA := Lib.hid hall; have HOK := Lib.hid hok; have HL := Lib.hid hL
  clear hn hs hall hok hL
  have Z := Lib.hid (Has.new w 43 #[.int .i64 0, .int .i64 0])
  have B0 := Lib.hid (newB (Below.refl w.heap.size w) (.cells #[.int .i64 0, .int .i64 0] 43))
  have H0 := Lib.hid (show (w.alloc (.cells #[.int .i64 0, .int .i64 0] 43)).ownsRow (w.heap.size + 1) 43 2 (.slice none 0 0) ((xs.take 0).map soF).length (flat prC ((xs.take 0).map soF)) from World.ownsRow_nil _ _ _ _)
  go_enter Tryz.func42, Tryz.ntmps42
  go_wp2_with (go_at_call 87; refine (within_c _ _ _ _).mono ?_; rintro e w1 ⟨rfl, rfl⟩; rw [HI.out])
  go_loopw [4, 14] (fun v i wr => ∃ k : Nat, k ≤ n ∧ i = .int .i64 k ∧ wr.ownsRow (w.heap.size + 1) 43 2 v ((xs.take k).map soF).length (flat prC ((xs.take k).map soF)) ∧ Below w.heap.size w wr ∧ Has wr w.heap.size 43 #[.int .i64 0, .int .i64 0]) (fun _ i _ => n - (intOf i).toNat)
  case atStart => exact ⟨0, by omega, rfl, H0.out, B0.out, Z.out⟩
  case round =>
    obtain ⟨k, hk, rfl, hO, hB, hZ⟩ := hrel
    have HO := Lib.hid hO; have HB := Lib.hid hB; have HZ := Lib.hid hZ
    clear hO hB hZ
    by_cases hkn : k < n
    · have hkl : k < xs.length := by rw [HN.out]; exact hkn
      obtain ⟨b, o, he⟩ := HS.out.addr (by omega)
      have hx := List.getElem?_eq_getElem hkl
      have hso := HA.out _ (List.getElem_mem hkl)
      have HT := Lib.hid (List.take_append_getElem hkl)
      obtain ⟨x, hxx⟩ : ∃ x, x = xs[k] := ⟨_, rfl⟩
      rw [← hxx] at hx HT hso
      subst he
      have hR := Lib.hid ((HS.out.keep HB.out).range So.cs_len hx)
      clear hx hxx
      obtain ⟨d, sl, sh, er⟩ := x
      simp only [soB, Bool.and_eq_true] at hso
      obtain ⟨⟨q1, q2⟩, q3⟩ := hso
      have p1 := of_decide_eq_true q1; have p2 := of_decide_eq_true q2; have p3 := of_decide_eq_true q3
      have Q1 := Lib.hid q1; have Q2 := Lib.hid q2; have Q3 := Lib.hid q3
      clear q1 q2 q3
      replace hR := Lib.hid (show wr.rangeAt b (o + k * 4) [.int .i64 d, .int .i64 sl, .int .i64 sh, .int .i64 er] from hR.out)
      have HTs := Lib.hid (show (xs.take (k + 1)).map soF = (xs.take k).map soF ++ [soF ⟨d, sl, sh, er⟩] by rw [← HT.out]; simp)
      have HSd := Lib.hid fun (w' : World) => sounded_c d sl sh er (by omega) (by omega) (by omega) (by omega) w'
      have hlk : ((xs.take k).map soF).length ≤ 1000000 := by simp; omega
      have N := Lib.hid (Has.new wr 88 #[.int .i64 d, .int .i64 sl, .int .i64 sh, .int .i64 er])
      have HO1 := Lib.hid (HO.out.alloc (.cells #[.int .i64 d, .int .i64 sl, .int .i64 sh, .int .i64 er] 88))
      go_wp2_with (first
        | (refine wpList_load_mid rfl 88 _ rfl b (o + k * 4) rfl _ _ hR.out Tryz.underlying88 rfl (by kernel_rfl) ?_)
        | (go_at_call 87; refine (within_c _ _ _ _).mono ?_; rintro e w1 ⟨rfl, rfl⟩; (first | rw [Q1.out] | rw [Q3.out]))
        | (go_at_call 88; refine (ordered_c _ _ _ _ _ (by omega) (by omega) _).mono ?_; rintro e w2 ⟨rfl, hb⟩; rw [Q2.out]; have HB2 := Lib.hid (nextB (newB HB.out (.cells #[.int .i64 d, .int .i64 sl, .int .i64 sh, .int .i64 er] 88)) hb); have N2 := Lib.hid (N.out.after hb); have c2 := N2.out.cell; have Hb := Lib.hid hb; clear hb)
        | (go_at_call 89; refine (HSd.out _).mono ?_; rintro e w3 ⟨rfl, hb⟩; have HB3 := Lib.hid (nextB HB2.out hb); have HO3 := Lib.hid (owns_keep (owns_keep HO1.out Hb.out) hb); have HZ3 := Lib.hid ((((HZ.out.alloc (.cells #[.int .i64 d, .int .i64 sl, .int .i64 sh, .int .i64 er] 88)).after Hb.out).after hb)); clear hb)
        | (at_builtin; refine wpList_app51 rfl _ _ rfl (w.heap.size + 1) u4 _ rfl (HO3.out.alloc _) hlk w3.heap.size (soF ⟨d, sl, sh, er⟩) rfl (Has.new w3 43 _) (by have := HZ3.out.lt; simp; omega) ?_; intro v5 w5 ho5 hb5 _ hk5; have HO5 := Lib.hid ho5; have HB5 := Lib.hid ((newB HB3.out (.cells #[.int .i64 (soF ⟨d, sl, sh, er⟩).1, .int .i64 (soF ⟨d, sl, sh, er⟩).2] 43)).trans (hb5.mono (Nat.le_succ _))); have HZ5 := Lib.hid (hk5 w.heap.size _ (fun e => by have := (HO3.out.lt _ e).1; omega) (HZ3.out.alloc _)); clear ho5 hb5 hk5))
      go_roundw
      case rel => exact ⟨k + 1, by omega, by go_num, by rw [HTs.out]; exact HO5.out, HB5.out, HZ5.out⟩
      case measure => simp [intOf]; omega
    · have hke : k = n := by omega
      subst hke
      have ht : (xs.take k).map soF = (x0, x1) :: ys := by rw [List.take_of_length_le (by rw [HN.out]; exact Nat.le_refl _)]; exact HL.out
      have ho := HO.out
      rw [ht] at ho
      have hlen : ((x0, x1) :: ys : List Pr).length = k := by rw [← HL.out]; simpa using HN.out
      rw [hlen] at ho
      rcases ho.2 with ⟨_, h⟩ | ⟨g, cap, cur, e1, h2, h3, h4, h5, h6, h7⟩
      · omega
      · subst e1
        have hrow : RowOf prC 2 wr g 43 k ((x0, x1) :: ys) := ⟨cur, h3, hlen, fun j u hu => by
          rw [← h7, List.getElem?_take] at hu
          split at hu
          · rw [← Array.getElem?_toList]; exact hu
          · cases hu⟩
        have HLf := Lib.hid (left_c x0 x1 g 0 k cap ys (by omega) (by omega) h4 HOK.out wr (hrow.sl prC_len))
        clear h2 h3 h5 h6 h7 ho hrow ht
        go_wp2_with (first
          | (go_at_call 90; refine HLf.out.mono ?_; rintro e w6 ⟨rfl, hb6⟩; have HB6 := Lib.hid (nextB HB.out hb6); have Z6 := Lib.hid (HZ.out.after hb6); clear hb6)
          | (refine wpList_store_all rfl 43 _ _ rfl w.heap.size rfl _ rfl 43 _ Z6.out (by kernel_rfl) rfl (by simp [Value.oneCell']) ?_))
        exact bodyPost_ret (results_row_tmp Tryz.results42 _ _ w.heap.size 43 _ (0, 0) _ rfl (Z6.out.setRow _) Tryz.underlying43 rfl (by kernel_rfl)) rfl ⟨rfl, rowB HB6.out (by omega) _⟩
end Go.Proofs
namespace Go.Proofs
open Go.RowKit Go.Shelf Gas
attribute [local go_sem ↓] Go.wp_at_zero Go.wp_at_succ

/-- A man of a crew. -/
structure Mn where
  (rA : Option Addr) (rn rc : Nat) (rs : List Pr)
def Mn.cs (m : Mn) : List Value := [.slice m.rA m.rn m.rc]
theorem Mn.cs_len (m : Mn) : m.cs.length = 1 := rfl
def Mn.tm (m : Mn) (t : Tm) : Tm := { t with rA := m.rA, rn := m.rn, rc := m.rc, rs := m.rs }
def crewB (t : Tm) (dive : List St) (m : Mn) : Bool := enterB t.ps m.rs (folS t.ps m.rs (h0, true) dive).1 0 (folS t.ps m.rs (h0, true) dive).2
/-- The numbers of those of the first k men who can come up. -/
def crewL (t : Tm) (dive : List St) (ms : List Mn) : Nat → List Int
  | 0 => []
  | k + 1 => crewL t dive ms k ++ (match ms[k]? with | some m => if crewB t dive m then [(k : Int)] else [] | none => [])
theorem crewL_len (t : Tm) (dive : List St) (ms : List Mn) : ∀ k, (crewL t dive ms k).length ≤ k
  | 0 => by simp [crewL]
  | k + 1 => by
    have := crewL_len t dive ms k
    simp only [crewL, List.length_append]
    split
    · split <;> simp <;> omega
    · simp; omega

def IsInts0 (w0 : World) (xs : List Int) (e : Ending) (w' : World) : Prop := ∃ v, e = .returned (.tuple #[v, .int .i64 0]) ∧ w'.ownsRow w0.heap.size 3 1 v xs.length (flat inC xs) ∧ Below w0.heap.size w0 w'
theorem errI_true : errI true = 0 := rfl

set_option maxHeartbeats 4000000 in
theorem Crew_c (t : Tm) (ht : t.Small) (htb : tableB t.ps t.ss = true) (A A2 : Option Addr) (n c n2 c2 : Nat) (ms : List Mn) (dive : List St) (hn : n ≤ 6) (hdv : diveB dive 0 = true) (hn2 : n2 ≤ 100000) (hms : ∀ m ∈ ms, m.rn = t.pn ∧ m.rs.all rateB = true ∧ m.rn ≤ 1000000)
    (w : World) (hp : SlOf prC 2 w t.pA t.pn t.ps) (hs : SlOf inC 1 w t.sA t.sn t.ss) (hm : SlOf Mn.cs 1 w A n ms) (hr : ∀ m ∈ ms, SlOf prC 2 w m.rA m.rn m.rs) (hd : SlOf St.cs 4 w A2 n2 dive) :
    Calls Tryz.prog 52 #[t.tab, .slice A n c, .slice A2 n2 c2] w (IsInts0 w (crewL t dive ms n)) := by
  have hps : t.ps.all partB = true := by
    simp only [tableB, Bool.and_eq_true] at htb; exact htb.1.2
  have hok : ∀ m ∈ ms, (m.tm t).Ok := fun m hm' => ⟨⟨ht.p, ht.s, (hms m hm').2.2⟩, (hms m hm').1, (hms m hm').2.1, hps⟩
  have hin : ∀ m ∈ ms, (m.tm t).In w := fun m hm' => ⟨hp, hs, hr m hm'⟩
  have hsd := diveB_ok hdv
  have HCk := Lib.hid fun (w' : World) (hb : Below w.heap.size w w') => Check_c t.pA t.sA t.pn t.pc t.sn t.sc t.ps t.ss (by have := ht.p; omega) (by have := ht.s; omega) w' (hp.keep hb) (hs.keep hb)
  have HDv := Lib.hid fun (w' : World) (hb : Below w.heap.size w w') => diveable_c A2 n2 c2 dive 0 (by omega) (by omega) w' (hd.keep hb)
  rw [htb, errI_true] at HCk
  rw [hdv] at HDv
  have HSu := Lib.hid fun (w' : World) (hb : Below w.heap.size w w') (m : Mn) (hm' : m ∈ ms) => (show Calls Tryz.prog 95 #[t.tab, .agg #[.slice m.rA m.rn m.rc]] w' fun e w2 => e = .returned (.bool true) ∧ Below w'.heap.size w' w2 from by
    have := suits_c t.pA t.sA m.rA t.pn t.pc t.sn t.sc m.rn m.rc m.rs (hms m hm').2.2 w' ((hr m hm').keep hb)
    rw [(hms m hm').2.1, decide_eq_true (hms m hm').1] at this
    exact this)
  have HBg := Lib.hid fun (w' : World) (hb : Below w.heap.size w w') (m : Mn) (hm' : m ∈ ms) => begin_c (m.tm t) (hok m hm') w' ((hin m hm').keep hb)
  have HFo := Lib.hid fun (w' : World) (hb : Below w.heap.size w w') (m : Mn) (hm' : m ∈ ms) (bm : Nat) (hmm : MapAt w' bm (heldF m.rs h0)) => follow_c (m.tm t) h0 (h0_ok (hok m hm')) bm true A2 n2 c2 dive (by omega) hsd w' ((hin m hm').keep hb) hmm (hd.keep hb)
  have HSa := Lib.hid fun (w' : World) (hb : Below w.heap.size w w') (m : Mn) (hm' : m ∈ ms) (bm : Nat) (hmm : MapAt w' bm (heldF m.rs (folS t.ps m.rs (h0, true) dive).1)) =>
    (show Calls Tryz.prog 60 #[FolV (m.tm t) bm (folS t.ps m.rs (h0, true) dive).2] w' fun e w2 => e = .returned (.bool (crewB t dive m)) ∧ Below w'.heap.size w' w2 from safe_c (m.tm t) _ (FolOk.folS dive (h0, true) (h0_ok (hok m hm')) hsd) bm (folS t.ps m.rs (h0, true) dive).2 w' ((hin m hm').keep hb) hmm)
  have HM := Lib.hid hm; have HN := Lib.hid hm.1
  clear hp hs hr hd hok hin hsd hms hps htb hdv hm
  obtain ⟨pA, sA, rA, pn, pc, sn, sc, rn, rc, ps, ss, rs⟩ := t
  simp only [Tm.tab, Mn.tm] at *
  have T0 := Lib.hid (Has.new w 25 #[.slice pA pn pc, .slice sA sn sc])
  have B0 := Lib.hid (newB (Below.refl w.heap.size w) (.cells #[.slice pA pn pc, .slice sA sn sc] 25))
  go_enter Tryz.func52, Tryz.ntmps52
  go_wp2_with (first
    | (go_at_call 94; refine (HCk.out _ B0.out).mono ?_; rintro e w1 ⟨rfl, hb1⟩; have HB1 := Lib.hid (nextB B0.out hb1); have T1 := Lib.hid (T0.out.after hb1); clear hb1)
    | (go_at_call 69; refine (HDv.out _ HB1.out).mono ?_; rintro e w2 ⟨rfl, hb2⟩; have HB2 := Lib.hid (nextB HB1.out hb2); have T2 := Lib.hid (T1.out.after hb2); clear hb2))
  have HO0 := Lib.hid (show w2.ownsRow w.heap.size 3 1 (.slice none 0 0) (crewL ⟨pA, sA, rA, pn, pc, sn, sc, rn, rc, ps, ss, rs⟩ dive ms 0).length (flat inC (crewL ⟨pA, sA, rA, pn, pc, sn, sc, rn, rc, ps, ss, rs⟩ dive ms 0)) from World.ownsRow_nil _ _ _ _)
  go_loopw [8, 26] (fun v i wr => ∃ k : Nat, k ≤ n ∧ i = .int .i64 k ∧ wr.ownsRow w.heap.size 3 1 v (crewL ⟨pA, sA, rA, pn, pc, sn, sc, rn, rc, ps, ss, rs⟩ dive ms k).length (flat inC (crewL ⟨pA, sA, rA, pn, pc, sn, sc, rn, rc, ps, ss, rs⟩ dive ms k)) ∧ Below w.heap.size w wr ∧ Has wr w.heap.size 25 #[.slice pA pn pc, .slice sA sn sc]) (fun _ i _ => n - (intOf i).toNat)
  case atStart => exact ⟨0, by omega, rfl, HO0.out, HB2.out, T2.out⟩
  case round =>
    obtain ⟨k, hk, rfl, hO, hB, hT⟩ := hrel
    have HO := Lib.hid hO; have HB := Lib.hid hB; have HT := Lib.hid hT
    clear hO hB hT
    by_cases hkn : k < n
    · have hkl : k < ms.length := by rw [HN.out]; exact hkn
      obtain ⟨b, o, he⟩ := HM.out.addr (by omega)
      have hx := List.getElem?_eq_getElem hkl
      have hmem := List.getElem_mem hkl
      obtain ⟨m, hmm⟩ : ∃ m, m = ms[k] := ⟨_, rfl⟩
      rw [← hmm] at hx hmem
      have hR0 := (HM.out.keep HB.out)
      subst he
      have hR1 := (hR0.range Mn.cs_len hx)
      have HCL := Lib.hid (show crewL ⟨pA, sA, rA, pn, pc, sn, sc, rn, rc, ps, ss, rs⟩ dive ms (k + 1) = crewL ⟨pA, sA, rA, pn, pc, sn, sc, rn, rc, ps, ss, rs⟩ dive ms k ++ (if crewB ⟨pA, sA, rA, pn, pc, sn, sc, rn, rc, ps, ss, rs⟩ dive m then [(k : Int)] else []) by simp only [crewL, hx])
      have hlk := Nat.le_trans (crewL_len ⟨pA, sA, rA, pn, pc, sn, sc, rn, rc, ps, ss, rs⟩ dive ms k) (show k ≤ 1000000 by omega)
      have K1 := Lib.hid fun (W : World) (hb : Below w.heap.size w W) => HSu.out W hb m hmem
      have K2 := Lib.hid fun (W : World) (hb : Below w.heap.size w W) => HBg.out W hb m hmem
      have K3 := Lib.hid fun (W : World) (hb : Below w.heap.size w W) => HFo.out W hb m hmem
      have K4 := Lib.hid fun (W : World) (hb : Below w.heap.size w W) => HSa.out W hb m hmem
      clear hx hmm hR0 hmem
      generalize crewB ⟨pA, sA, rA, pn, pc, sn, sc, rn, rc, ps, ss, rs⟩ dive m = cb at *
      obtain ⟨mA, mn, mc, mr⟩ := m
      have hR := Lib.hid (show wr.rangeAt b (o + k) [.slice mA mn mc] from by simpa [Mn.cs] using hR1)
      clear hR1
      simp only [Tm.man] at K1 K2
      have N := Lib.hid (Has.new wr 28 #[.slice mA mn mc])
      have B1 := Lib.hid (newB HB.out (.cells #[.slice mA mn mc] 28))
      have T1 := Lib.hid (HT.out.alloc (.cells #[.slice mA mn mc] 28))
      have HO1 := Lib.hid (HO.out.alloc (.cells #[.slice mA mn mc] 28))
      have hgk : wr.cell? ⟨b, o + k, none⟩ = some (.slice mA mn mc) := hR.out 0 _ rfl
      have ct0 := HT.out.cell
      have htl := HT.out.lt
      cases cb
      all_goals
        go_wp2_with (first
          | (go_at_call 95; refine (K1.out _ B1.out).mono ?_; rintro e w3 ⟨rfl, hb⟩; have B3 := Lib.hid (nextB B1.out hb); have ct := (T1.out.after hb).cell; have cn := (N.out.after hb).cell; have T3 := Lib.hid (T1.out.after hb); have O3 := Lib.hid (owns_keep HO1.out hb); clear hb)
          | (go_at_call 57; refine (K2.out _ B3.out).mono ?_; rintro e w4 ⟨bm, rfl, hM, hb⟩; have B4 := Lib.hid (nextB B3.out hb); have M4 := Lib.hid hM; have T4 := Lib.hid (T3.out.after hb); have O4 := Lib.hid (owns_keep O3.out hb); clear hb hM)
          | (go_at_call 58; refine (K3.out _ B4.out bm M4.out).mono ?_; rintro e w5 ⟨bm5, rfl, hM, hb⟩; have B5 := Lib.hid (nextB B4.out hb); have M5 := Lib.hid hM; have T5 := Lib.hid (T4.out.after hb); have O5 := Lib.hid (owns_keep O4.out hb); clear hb hM)
          | (go_at_call 60; refine (K4.out _ B5.out bm5 M5.out).mono ?_; rintro e w6 ⟨rfl, hb⟩; have B6 := Lib.hid (nextB B5.out hb); have T6 := Lib.hid (T5.out.after hb); have O6 := Lib.hid (owns_keep O5.out hb); clear hb)
          | (at_builtin; refine wpList_app37 rfl _ _ rfl w.heap.size u8 _ rfl (O6.out.alloc _) hlk w6.heap.size (k : Int) rfl (Has.new w6 3 _) (newB B6.out _).size ?_; intro v7 w7 ho7 hb7 hsp; have O7 := Lib.hid ho7; have B7 := Lib.hid ((newB B6.out (.cells #[.int .i64 k] 3)).trans hb7); have T7 := Lib.hid (hsp.has (T6.out.alloc _) (by decide)); clear ho7 hb7 hsp))
        go_roundw
        case rel => first
          | exact ⟨k + 1, by omega, by go_num, by rw [HCL.out]; exact O7.out, B7.out, T7.out⟩
          | exact ⟨k + 1, by omega, by go_num, by rw [HCL.out, if_neg (by decide), List.append_nil]; exact O6.out, B6.out, T6.out⟩
        case measure => simp [intOf]; omega
    · go_wp2
      have hke : k = n := by omega
      subst hke
      exact bodyPost_ret (results_tmp2 rfl _ _ _) rfl ⟨u8, rfl, HO.out, HB.out⟩
end Go.Proofs
