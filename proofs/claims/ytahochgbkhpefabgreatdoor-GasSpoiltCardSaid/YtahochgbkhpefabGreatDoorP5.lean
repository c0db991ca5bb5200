/-
  Contracts of Wait and Stop hold at every table, man and dive of moderate size.
-/
import Derived.Test.YtahochgbkhpefabGreatDoorP4
import Derived.Deep.RegionHeld3
namespace Go.Proofs
open Go.RowKit Go.Shelf Gas
attribute [local go_sem ↓] Go.wp_at_zero Go.wp_at_succ

def firstFrom (p : Int → Bool) : Nat → Int → Option Int
  | 0, _ => none
  | n + 1, d => if p d then some d else firstFrom p n (d + 1)
def waitP (ps rs : List Pr) (a : FS) (dive2 : List St) (m : Int) : Bool :=
  enterB ps rs (folS ps rs (stayH a.1 (stayS 0 0 m), enterB ps rs a.1 (stayS 0 0 m).dl a.2) dive2).1 0 (folS ps rs (stayH a.1 (stayS 0 0 m), enterB ps rs a.1 (stayS 0 0 m).dl a.2) dive2).2
def optV (o : Option Int) : Int × Int := match o with | some m => (m, 0) | none => (0, 5)
def waitF (t : Tm) (dive dive2 : List St) : Int × Int :=
  if definedB t.ps t.ss t.rs dive (1 + (dive2.length : Int)) && diveB dive2 0 then
    if enterB t.ps t.rs (folS t.ps t.rs (h0, true) dive).1 0 (folS t.ps t.rs (h0, true) dive).2 then optV (firstFrom (waitP t.ps t.rs (folS t.ps t.rs (h0, true) dive) dive2) 241 0) else (0, 7)
  else (0, 2)
theorem diveB_ok {dive : List St} {room : Int} (h : diveB dive room = true) : ∀ s ∈ dive, SOk s := by
  simp only [diveB, Bool.and_eq_true, decide_eq_true_eq] at h
  intro s hs
  have := List.all_eq_true.1 h.2 s hs
  simp only [stageB, ordB, Bool.and_eq_true, decide_eq_true_eq] at this
  exact ⟨by omega, by omega, by omega, by omega, by omega⟩
theorem Has.cells5 {w : World} {g : Nat} {t : TypeId} {a b c d e : Value} (h : Has w g t #[a, b, c, d, e]) : w.cell? ⟨g, 0, none⟩ = some a ∧ w.cell? ⟨g, 1, none⟩ = some b ∧ w.cell? ⟨g, 2, none⟩ = some c ∧ w.cell? ⟨g, 3, none⟩ = some d ∧ w.cell? ⟨g, 4, none⟩ = some e :=
  ⟨h.cell 0, h.cell 1, h.cell 2, h.cell 3, h.cell 4⟩

set_option maxHeartbeats 4000000 in
set_option maxRecDepth 50000 in
theorem Wait_c (t : Tm) (ht : t.Small) (A A2 : Option Addr) (n c n2 c2 : Nat) (dive dive2 : List St) (hn : n ≤ 100000) (hn2 : n2 ≤ 100000) (w : World) (hi : t.In w) (hd : SlOf St.cs 4 w A n dive) (hd2 : SlOf St.cs 4 w A2 n2 dive2) :
    Calls Tryz.prog 25 #[t.tab, t.man, .slice A n c, .slice A2 n2 c2] w fun e w' => e = .returned (.tuple #[.int .i64 (waitF t dive dive2).1, .int .i64 (waitF t dive dive2).2]) ∧ Below w.heap.size w w' := by
  have hl2 := hd2.1
  have HD := Lib.hid fun (w' : World) (hb : Below w.heap.size w w') => defined_c t ht A n c dive (1 + (n2 : Int)) (by omega) (by omega) w' (hi.keep hb) (hd.keep hb)
  have HDv := Lib.hid fun (w' : World) (hb : Below w.heap.size w w') => diveable_c A2 n2 c2 dive2 0 (by omega) (by omega) w' (hd2.keep hb)
  have HOK := Lib.hid fun h => defined_ok ht hi (dive := dive) (room := 1 + (n2 : Int)) h
  have B0 := Lib.hid (newB (newB (Below.refl w.heap.size w) (.cells #[.slice t.pA t.pn t.pc, .slice t.sA t.sn t.sc] 25)) (.cells #[.slice t.rA t.rn t.rc] 28))
  have T0 := Lib.hid ((Has.new w 25 #[.slice t.pA t.pn t.pc, .slice t.sA t.sn t.sc]).alloc (.cells #[.slice t.rA t.rn t.rc] 28))
  have M0 := Lib.hid (Has.new' (w.alloc (.cells #[.slice t.pA t.pn t.pc, .slice t.sA t.sn t.sc] 25)) 28 #[.slice t.rA t.rn t.rc] (g := w.heap.size + 1) (by simp))
  have HW := Lib.hid (show waitF t dive dive2 = if definedB t.ps t.ss t.rs dive (1 + (n2 : Int)) && diveB dive2 0 then
    if enterB t.ps t.rs (folS t.ps t.rs (h0, true) dive).1 0 (folS t.ps t.rs (h0, true) dive).2 then optV (firstFrom (waitP t.ps t.rs (folS t.ps t.rs (h0, true) dive) dive2) 241 0) else (0, 7) else (0, 2) by unfold waitF; rw [hl2])
  cases hdb : definedB t.ps t.ss t.rs dive (1 + (n2 : Int))
  · rw [hdb] at HD
    have HE := Lib.hid (show waitF t dive dive2 = (0, 2) by rw [HW.out, hdb]; rfl)
    rw [HE.out]
    clear hi hd hd2 HOK hdb HW HE hl2
    obtain ⟨pA, sA, rA, pn, pc, sn, sc, rn, rc, ps, ss, rs⟩ := t
    simp only [Tm.tab, Tm.man] at *
    go_enter Tryz.func25, Tryz.ntmps25
    go_wp2_with (go_at_call 56; refine (HD.out _ B0.out).mono ?_; rintro e w1 ⟨rfl, hb1⟩; have HB1 := Lib.hid (nextB B0.out hb1); clear hb1)
    exact bodyPost_ret (results_tmp2 rfl _ _ _) rfl ⟨rfl, HB1.out⟩
  · rw [hdb] at HD
    cases hdv : diveB dive2 0
    · rw [hdv] at HDv
      have HE := Lib.hid (show waitF t dive dive2 = (0, 2) by rw [HW.out, hdb, hdv]; rfl)
      rw [HE.out]
      clear hi hd hd2 HOK hdb HW HE hl2 hdv
      obtain ⟨pA, sA, rA, pn, pc, sn, sc, rn, rc, ps, ss, rs⟩ := t
      simp only [Tm.tab, Tm.man] at *
      go_enter Tryz.func25, Tryz.ntmps25
      go_wp2_with (first
        | (go_at_call 56; refine (HD.out _ B0.out).mono ?_; rintro e w1 ⟨rfl, hb1⟩; have HB1 := Lib.hid (nextB B0.out hb1); clear hb1)
        | (go_at_call 69; refine (HDv.out _ HB1.out).mono ?_; rintro e w2 ⟨rfl, hb2⟩; have HB2 := Lib.hid (nextB HB1.out hb2); clear hb2))
      exact bodyPost_ret (results_tmp2 rfl _ _ _) rfl ⟨rfl, HB2.out⟩
    · rw [hdv] at HDv
      obtain ⟨hok, hs1, _⟩ := HOK.out hdb
      have hs2 := diveB_ok hdv
      have HBg := Lib.hid fun (w' : World) (hb : Below w.heap.size w w') => begin_c t hok w' (hi.keep hb)
      have HFo := Lib.hid fun (w' : World) (hb : Below w.heap.size w w') (bm : Nat) (hm : MapAt w' bm (heldF t.rs h0)) => follow_c t h0 (h0_ok hok) bm true A n c dive (by omega) hs1 w' (hi.keep hb) hm (hd.keep hb)
      have ho1 := FolOk.folS dive (h0, true) (h0_ok hok) hs1
      rw [hdb, hdv] at HW
      obtain ⟨a1, ha1⟩ : ∃ a, a = folS t.ps t.rs (h0, true) dive := ⟨_, rfl⟩
      rw [← ha1] at HFo HW ho1
      clear ha1
      obtain ⟨h1, k1⟩ := a1
      have HSa := Lib.hid fun (w' : World) (hb : Below w.heap.size w w') (bm : Nat) (hm : MapAt w' bm (heldF t.rs h1)) => safe_c t h1 ho1 bm k1 w' (hi.keep hb) hm
      cases hen : enterB t.ps t.rs h1 0 k1
      · have HE := Lib.hid (show waitF t dive dive2 = (0, 7) by rw [HW.out]; simp [hen])
        rw [HE.out]
        rw [hen] at HSa
        clear hi hd hd2 HOK hdb HW HE hl2 hdv hok hs1 hs2 ho1 hen
        obtain ⟨pA, sA, rA, pn, pc, sn, sc, rn, rc, ps, ss, rs⟩ := t
        have HFV := Lib.hid (show ∀ b k, FolV ⟨pA, sA, rA, pn, pc, sn, sc, rn, rc, ps, ss, rs⟩ b k = .agg #[.slice pA pn pc, .slice sA sn sc, .slice rA rn rc, .map (some b), .bool k] from fun _ _ => rfl)
        simp only [Tm.tab, Tm.man] at *
        go_enter Tryz.func25, Tryz.ntmps25
        go_wp2_with (first
          | (go_at_call 56; refine (HD.out _ B0.out).mono ?_; rintro e w1 ⟨rfl, hb1⟩; have HB1 := Lib.hid (nextB B0.out hb1); have T1 := Lib.hid (T0.out.after hb1); have M1 := Lib.hid (M0.out.after hb1); clear hb1)
          | (go_at_call 69; refine (HDv.out _ HB1.out).mono ?_; rintro e w2 ⟨rfl, hb2⟩; have HB2 := Lib.hid (nextB HB1.out hb2); have ct := (T1.out.after hb2).cell; have cm := (M1.out.after hb2).cell; clear hb2)
          | (go_at_call 57; refine (HBg.out _ HB2.out).mono ?_; rintro e w3 ⟨bm, rfl, hM, hb3⟩; have HM3 := Lib.hid hM; have HB3 := Lib.hid (nextB HB2.out hb3); clear hM hb3)
          | (go_at_call 58; refine (HFo.out _ HB3.out _ HM3.out).mono ?_; rintro e w4 ⟨bm4, rfl, hM, hb4⟩; rw [HFV.out]; have HB4 := Lib.hid (newB (nextB HB3.out hb4) (.cells #[.slice pA pn pc, .slice sA sn sc, .slice rA rn rc, .map (some bm4), .bool k1] 108)); have HM4 := Lib.hid (hM.keep (newB (Below.refl _ _) (.cells #[.slice pA pn pc, .slice sA sn sc, .slice rA rn rc, .map (some bm4), .bool k1] 108))); clear hM hb4)
          | (go_at_call 60; refine (HSa.out _ HB4.out bm4 HM4.out).mono ?_; rintro e w5 ⟨rfl, hb5⟩; have HB5 := Lib.hid (nextB HB4.out hb5); clear hb5))
        exact bodyPost_ret (results_tmp2 rfl _ _ _) rfl ⟨rfl, HB5.out⟩
      · have HE := Lib.hid (show waitF t dive dive2 = optV (firstFrom (waitP t.ps t.rs (h1, k1) dive2) 241 0) by rw [HW.out]; simp [hen])
        rw [HE.out]
        rw [hen] at HSa
        have HR1 := Lib.hid fun (m : Nat) (hm4 : m ≤ 240) (W : World) (hb : Below w.heap.size w W) (bm : Nat) (hm : MapAt W bm (heldF t.rs h1)) => stay_c t h1 ho1 (stayS 0 0 m) (stayS_ok rfl (by omega)) bm k1 W (hi.keep hb) hm
        have HR2 := Lib.hid fun (m : Nat) (hm4 : m ≤ 240) (W : World) (hb : Below w.heap.size w W) (bm : Nat) (hm : MapAt W bm (heldF t.rs (stayH h1 (stayS 0 0 m)))) => follow_c t (stayH h1 (stayS 0 0 m)) (ho1.stay (stayS_ok rfl (by omega))) bm (enterB t.ps t.rs h1 (stayS 0 0 m).dl k1) A2 n2 c2 dive2 (by omega) hs2 W (hi.keep hb) hm (hd2.keep hb)
        have HR3 := Lib.hid fun (m : Nat) (hm4 : m ≤ 240) (W : World) (hb : Below w.heap.size w W) (bm : Nat) (hm : MapAt W bm (heldF t.rs (folS t.ps t.rs (stayH h1 (stayS 0 0 m), enterB t.ps t.rs h1 (stayS 0 0 m).dl k1) dive2).1)) =>
          safe_c t _ (FolOk.folS dive2 (stayH h1 (stayS 0 0 m), enterB t.ps t.rs h1 (stayS 0 0 m).dl k1) (ho1.stay (stayS_ok rfl (by omega))) hs2) bm (folS t.ps t.rs (stayH h1 (stayS 0 0 m), enterB t.ps t.rs h1 (stayS 0 0 m).dl k1) dive2).2 W (hi.keep hb) hm
        replace HR3 := Lib.hid fun (m : Nat) (hm4 : m ≤ 240) (W : World) (hb : Below w.heap.size w W) (bm : Nat) hm => (show Calls Tryz.prog 60 #[FolV t bm (folS t.ps t.rs (stayH h1 (stayS 0 0 m), enterB t.ps t.rs h1 (stayS 0 0 m).dl k1) dive2).2] W fun e w' => e = .returned (.bool (waitP t.ps t.rs (h1, k1) dive2 m)) ∧ Below W.heap.size W w' from HR3.out m hm4 W hb bm hm)
        have HQ := Lib.hid (show ∀ k : Nat, k < 241 → firstFrom (waitP t.ps t.rs (h1, k1) dive2) (241 - k) k = if waitP t.ps t.rs (h1, k1) dive2 k then some (k : Int) else firstFrom (waitP t.ps t.rs (h1, k1) dive2) (241 - (k + 1)) ((k + 1 : Nat) : Int) from fun k hk => by rw [show 241 - k = (241 - (k + 1)) + 1 by omega]; rfl)
        clear hi hd hd2 HOK hdb HW HE hl2 hdv hok hs1 hs2 ho1 hen
        generalize waitP t.ps t.rs (h1, k1) dive2 = P at *
        obtain ⟨pA, sA, rA, pn, pc, sn, sc, rn, rc, ps, ss, rs⟩ := t
        have HFV := Lib.hid (show ∀ b k, FolV ⟨pA, sA, rA, pn, pc, sn, sc, rn, rc, ps, ss, rs⟩ b k = .agg #[.slice pA pn pc, .slice sA sn sc, .slice rA rn rc, .map (some b), .bool k] from fun _ _ => rfl)
        simp only [Tm.tab, Tm.man] at *
        go_enter Tryz.func25, Tryz.ntmps25
        go_wp2_with (first
          | (go_at_call 56; refine (HD.out _ B0.out).mono ?_; rintro e w1 ⟨rfl, hb1⟩; have HB1 := Lib.hid (nextB B0.out hb1); have T1 := Lib.hid (T0.out.after hb1); have M1 := Lib.hid (M0.out.after hb1); clear hb1)
          | (go_at_call 69; refine (HDv.out _ HB1.out).mono ?_; rintro e w2 ⟨rfl, hb2⟩; have HB2 := Lib.hid (nextB HB1.out hb2); have ct := (T1.out.after hb2).cell; have cm := (M1.out.after hb2).cell; clear hb2)
          | (go_at_call 57; refine (HBg.out _ HB2.out).mono ?_; rintro e w3 ⟨bm, rfl, hM, hb3⟩; rw [HFV.out]; have HM3 := Lib.hid hM; have HB3 := Lib.hid (nextB HB2.out hb3); clear hM hb3)
          | (go_at_call 58; refine (HFo.out _ HB3.out _ HM3.out).mono ?_; rintro e w4 ⟨bm4, rfl, hM, hb4⟩; rw [HFV.out]; have HB4 := Lib.hid (newB (nextB HB3.out hb4) (.cells #[.slice pA pn pc, .slice sA sn sc, .slice rA rn rc, .map (some bm4), .bool k1] 108)); have HM4 := Lib.hid (hM.keep (newB (Below.refl _ _) (.cells #[.slice pA pn pc, .slice sA sn sc, .slice rA rn rc, .map (some bm4), .bool k1] 108))); clear hM hb4)
          | (go_at_call 60; refine (HSa.out _ HB4.out bm4 HM4.out).mono ?_; rintro e w5 ⟨rfl, hb5⟩; have HB5 := Lib.hid (nextB HB4.out hb5); have F5 := Lib.hid ((Has.new w4 108 #[.slice pA pn pc, .slice sA sn sc, .slice rA rn rc, .map (some bm4), .bool k1]).after hb5); have HM5 := Lib.hid (HM4.out.keep hb5); clear hb5))
        clear ct cm HD HDv HBg HFo HSa B0 T0 M0 HB1 T1 M1 HB2 HB3 HM3 HB4 HM4
        generalize w4.heap.size = F at *
        go_loopw [33] (fun i wr => ∃ k : Nat, k ≤ 241 ∧ i = .int .i64 k ∧ Below w.heap.size w wr ∧ Has wr F 108 #[.slice pA pn pc, .slice sA sn sc, .slice rA rn rc, .map (some bm4), .bool k1] ∧ MapAt wr bm4 (heldF rs h1) ∧ firstFrom P 241 0 = firstFrom P (241 - k) k) (fun i _ => 241 - (intOf i).toNat)
        case atStart => exact ⟨0, by omega, rfl, HB5.out, F5.out, HM5.out, rfl⟩
        case round =>
          obtain ⟨k, hk, rfl, hB, hF, hM, hE⟩ := hrel
          have HB := Lib.hid hB; have HF := Lib.hid hF; have HM := Lib.hid hM; have HE := Lib.hid hE
          clear hB hF hM hE
          by_cases hkn : k < 241
          · have H1 := Lib.hid fun (W : World) (hb : Below wr.heap.size wr W) => HR1.out k (by omega) W (nextB HB.out hb) bm4 (HM.out.keep hb)
            have H2 := Lib.hid fun (W : World) (hb : Below wr.heap.size wr W) => HR2.out k (by omega) W (nextB HB.out hb)
            have H3 := Lib.hid fun (W : World) (hb : Below wr.heap.size wr W) => HR3.out k (by omega) W (nextB HB.out hb)
            have HK := Lib.hid fun (W : World) (hb : Below wr.heap.size wr W) => (⟨hb, (HF.out.after hb).cells5⟩ : Below wr.heap.size wr W ∧ _)
            have HPk := Lib.hid (HQ.out k hkn)
            cases hp : P k
            all_goals
              have HP := Lib.hid hp
              rw [hp] at H3 HPk
              clear hp
              go_wp2
              go_region_held3 (fun w' => Below wr.heap.size wr w' ∧ w'.cell? ⟨F, 0, none⟩ = some (.slice pA pn pc) ∧ w'.cell? ⟨F, 1, none⟩ = some (.slice sA sn sc) ∧ w'.cell? ⟨F, 2, none⟩ = some (.slice rA rn rc) ∧ w'.cell? ⟨F, 3, none⟩ = some (.map (some bm4)) ∧ w'.cell? ⟨F, 4, none⟩ = some (.bool k1)) ((first | exact HK.out _ (nextB (nextB (nextB (nextB (Below.refl _ wr).drew hx1) hx3) hx4) hx5) | exact HK.out _ (nextB (nextB (nextB (Below.refl _ wr).drew hx1) hx3) hx4) | exact HK.out _ (nextB (nextB (Below.refl _ wr).drew hx1) hx3) | exact HK.out _ (nextB (Below.refl _ wr).drew hx1) | exact HK.out _ (Below.refl _ wr).drew))
                (first
                  | (go_at_call 70; refine (rest_c _ _).mono ?_; rintro e x1 ⟨rfl, hx1⟩)
                  | (go_at_call 65; refine (H1.out _ (nextB (Below.refl _ wr).drew hx1)).mono ?_; rintro e x3 ⟨b3, rfl, hM3, hx3⟩)
                  | (go_at_call 58; refine (H2.out _ (nextB (nextB (Below.refl _ wr).drew hx1) hx3) b3 hM3).mono ?_; rintro e x4 ⟨b4, rfl, hM4, hx4⟩)
                  | (go_at_call 60; refine (H3.out _ (nextB (nextB (nextB (Below.refl _ wr).drew hx1) hx3) hx4) b4 hM4).mono ?_; rintro e x5 ⟨rfl, hx5⟩))
            · have hb5 := (nextB (nextB (nextB (nextB (Below.refl _ wr).drew hx1) hx3) hx4) hx5)
              go_wp2
              go_roundw
              case rel => exact ⟨k + 1, by omega, by go_num, nextB HB.out hb5, HF.out.after hb5, HM.out.keep hb5, HE.out.trans (HPk.out.trans (if_neg (by decide)))⟩
              case measure => simp [intOf]; omega
            · have hb5 := (nextB (nextB (nextB (nextB (Below.refl _ wr).drew hx1) hx3) hx4) hx5)
              go_wp2
              have he : firstFrom P 241 0 = some (k : Int) := HE.out.trans (HPk.out.trans (if_pos trivial))
              rw [he]
              exact bodyPost_ret (results_tmp2 rfl _ _ _) rfl ⟨rfl, nextB HB.out hb5⟩
          · have hke : k = 241 := by omega
            subst hke
            go_wp2
            have he : firstFrom P 241 0 = none := HE.out
            rw [he]
            exact bodyPost_ret (results_tmp2 rfl _ _ _) rfl ⟨rfl, HB.out⟩
end Go.Proofs
namespace Go.Proofs
open Go.RowKit Go.Shelf Gas
attribute [local go_sem ↓] Go.wp_at_zero Go.wp_at_succ

theorem results_row_tmp {P : Program} {fn : Func} {p u : Tmp} {ty : TypeId} (h : fn.results = #[.cell p ty, .tmp u]) (tmps : Array Value) (w : World) (g : Nat) (t : TypeId) (cs : Array Value) (fr : Nat × Nat) (d : TypeDesc)
    (hp : tmps.getD p undef = .pointer (some ⟨g, 0, none⟩)) (hg : w.heap[g]? = some (.cells cs t fr))
    (hu : P.underlying ty = some d) (hd : (match d with | .struct _ | .array _ _ => true | _ => false) = true) (hi : (P.info? ty).map (·.size) = some cs.size) :
    (results fn tmps).run P w = .ok (.tuple #[.agg cs, tmps.getD u undef]) w := by
  have hp' : tmps[p]?.getD undef = .pointer (some ⟨g, 0, none⟩) := by simpa using hp
  simp [results, h, hp', asAddr, run_loadVar_row w g t ty cs fr d hg hu hd hi]
theorem results_tmp_row_tmp {P : Program} {fn : Func} {s p u : Tmp} {ty : TypeId} (h : fn.results = #[.tmp s, .cell p ty, .tmp u]) (tmps : Array Value) (w : World) (g : Nat) (t : TypeId) (cs : Array Value) (fr : Nat × Nat) (d : TypeDesc)
    (hp : tmps.getD p undef = .pointer (some ⟨g, 0, none⟩)) (hg : w.heap[g]? = some (.cells cs t fr))
    (hu : P.underlying ty = some d) (hd : (match d with | .struct _ | .array _ _ => true | _ => false) = true) (hi : (P.info? ty).map (·.size) = some cs.size) :
    (results fn tmps).run P w = .ok (.tuple #[tmps.getD s undef, .agg cs, tmps.getD u undef]) w := by
  have hp' : tmps[p]?.getD undef = .pointer (some ⟨g, 0, none⟩) := by simpa using hp
  simp [results, h, hp', asAddr, run_loadVar_row w g t ty cs fr d hg hu hd hi]

def stopFrom (ps rs : List Pr) (d : Int) (kk : Bool) : Nat → (Nat → Int → Pr) → Int → Option Int
  | 0, _, _ => none
  | n + 1, h, i => if enterB ps rs (stayH h (stayS d d 1)) 0 kk then some (i + 1) else stopFrom ps rs d kk n (stayH h (stayS d d 1)) (i + 1)
def stopAt (ps rs : List Pr) (a : FS) (d : Int) : Option Int := if enterB ps rs a.1 d a.2 then stopFrom ps rs d true 30 a.1 0 else none
/-- A stop, and whether there is one. -/
def stC (d : Int) (o : Option Int) : Pr := match o with | some m => (d, m) | none => (0, 0)
def stV (s : Pr) (b : Bool) : Value := .tuple #[.agg #[.int .i64 s.1, .int .i64 s.2], .bool b]

set_option maxHeartbeats 4000000 in
set_option maxRecDepth 20000 in
theorem stop1_c (t : Tm) (h : Nat → Int → Pr) (ho : FolOk t h) (bm : Nat) (kp : Bool) (fb : Nat) (d : Int) (hd : 0 ≤ d ∧ d ≤ 40) (w : World) (hi : t.In w) (hm : MapAt w bm (heldF t.rs h)) (hf : Has w fb 108 (folC t (.map (some bm)) kp)) :
    Calls Tryz.prog 106 #[.int .i64 d, .pointer (some ⟨fb, 0, none⟩)] w fun e w' => e = .returned (stV (stC d (stopAt t.ps t.rs (h, kp) d)) (stopAt t.ps t.rs (h, kp) d).isSome) ∧ Below w.heap.size w w' := by
  have HX := Lib.hid fun (w' : World) (hb : Below w.heap.size w w') => enter_c t h ho bm kp d (by omega) w' (hi.keep hb) (hm.keep hb)
  have hsk : SOk (stayS d d 1) := ⟨by simp only [stayS]; omega, by simp only [stayS]; omega, by simp only [stayS]; omega⟩
  have HP := Lib.hid fun (w' : World) (hb : Below w.heap.size w w') (h' : Nat → Int → Pr) (ho' : FolOk t h') (b' : Nat) (k' : Bool) (hm' : MapAt w' b' (heldF t.rs h')) => pass_c t h' ho' (stayS d d 1) hsk b' k' w' (hi.keep hb) hm'
  have HN := Lib.hid fun (h' : Nat → Int → Pr) (ho' : FolOk t h') => ho'.stay hsk
  have HSa := Lib.hid fun (w' : World) (hb : Below w.heap.size w w') (h' : Nat → Int → Pr) (ho' : FolOk t h') (b' : Nat) (k' : Bool) (hm' : MapAt w' b' (heldF t.rs h')) => safe_c t h' ho' b' k' w' (hi.keep hb) hm'
  have HO := Lib.hid ho
  have HF := Lib.hid hf; have HM := Lib.hid hm
  clear hf hm hi ho hsk
  have Z := Lib.hid (Has.new w 31 #[.int .i64 0, .int .i64 0])
  have B0 := Lib.hid (newB (Below.refl w.heap.size w) (.cells #[.int .i64 0, .int .i64 0] 31))
  have F0 := Lib.hid (HF.out.after B0.out)
  cases hen : enterB t.ps t.rs h d kp
  · have HE := Lib.hid (show stopAt t.ps t.rs (h, kp) d = none by simp [stopAt, hen])
    rw [HE.out]
    rw [hen] at HX
    clear hen HE
    obtain ⟨pA, sA, rA, pn, pc, sn, sc, rn, rc, ps, ss, rs⟩ := t
    simp only [folC, FolV] at *
    go_enter Tryz.func106, Tryz.ntmps106
    go_wp2_with (first
      | (go_at_call 100; refine (HX.out _ B0.out).mono ?_; rintro e w1 ⟨rfl, hb1⟩; have HB1 := Lib.hid (nextB B0.out hb1); have Z1 := Lib.hid (Z.out.after hb1); clear hb1)
      | (refine wpList_load_row rfl 108 _ rfl fb rfl 108 _ (0, 0) _ F0.out Tryz.underlying108 rfl (by kernel_rfl) ?_)
      | (refine wpList_store_all rfl 31 _ _ rfl w.heap.size rfl _ rfl 31 _ (Z1.out.alloc _) (by kernel_rfl) rfl (by simp [Value.oneCell']) ?_))
    exact bodyPost_ret (results_row_tmp Tryz.results106 _ _ w.heap.size 31 _ (0, 0) _ rfl ((Z1.out.alloc _).setRow _) Tryz.underlying31 rfl (by kernel_rfl)) rfl ⟨rfl, rowB (newB HB1.out _) (by omega) _⟩
  · have HE := Lib.hid (show stopAt t.ps t.rs (h, kp) d = stopFrom t.ps t.rs d true (30 - 0) h (0 : Nat) by simp [stopAt, hen])
    have HQ := Lib.hid (show ∀ (k : Nat) (h' : Nat → Int → Pr), k < 30 → stopFrom t.ps t.rs d true (30 - k) h' k = if enterB t.ps t.rs (stayH h' (stayS d d 1)) 0 true then some ((k : Int) + 1) else stopFrom t.ps t.rs d true (30 - (k + 1)) (stayH h' (stayS d d 1)) ((k + 1 : Nat) : Int) from fun k h' hk => by rw [show 30 - k = (30 - (k + 1)) + 1 by omega]; rfl)
    rw [hen] at HX
    clear hen
    generalize stopAt t.ps t.rs (h, kp) d = so at *
    obtain ⟨pA, sA, rA, pn, pc, sn, sc, rn, rc, ps, ss, rs⟩ := t
    have HFV := Lib.hid (show ∀ b k, FolV ⟨pA, sA, rA, pn, pc, sn, sc, rn, rc, ps, ss, rs⟩ b k = .agg #[.slice pA pn pc, .slice sA sn sc, .slice rA rn rc, .map (some b), .bool k] from fun _ _ => rfl)
    simp only [folC] at *
    go_enter Tryz.func106, Tryz.ntmps106
    go_wp2_with (first
      | (go_at_call 100; refine (HX.out _ B0.out).mono ?_; rintro e w1 ⟨rfl, hb1⟩; rw [HFV.out]; have HB1 := Lib.hid (newB (nextB B0.out hb1) (.cells #[.slice pA pn pc, .slice sA sn sc, .slice rA rn rc, .map (some bm), .bool true] 108)); have Z1 := Lib.hid ((Z.out.after hb1).alloc (.cells #[.slice pA pn pc, .slice sA sn sc, .slice rA rn rc, .map (some bm), .bool true] 108)); have HM1 := Lib.hid (HM.out.keep HB1.out); have F1 := Lib.hid (Has.new w1 108 #[.slice pA pn pc, .slice sA sn sc, .slice rA rn rc, .map (some bm), .bool true]); have HW1 := Lib.hid (show w.heap.size + 1 ≤ w1.heap.size from by have := hb1.size; simpa using this); clear hb1)
      | (refine wpList_load_row rfl 108 _ rfl fb rfl 108 _ (0, 0) _ F0.out Tryz.underlying108 rfl (by kernel_rfl) ?_))
    clear F0 HF HX HM Z B0
    generalize w1.alloc (.cells #[.slice pA pn pc, .slice sA sn sc, .slice rA rn rc, .map (some bm), .bool true] 108) = W at *
    generalize w1.heap.size = F at *
    go_loopw [14] (fun i wr => ∃ (k : Nat) (h' : Nat → Int → Pr) (b' : Nat), k ≤ 30 ∧ i = .int .i64 k ∧ Below w.heap.size w wr ∧ FolOk ⟨pA, sA, rA, pn, pc, sn, sc, rn, rc, ps, ss, rs⟩ h' ∧ MapAt wr b' (heldF rs h') ∧ Has wr F 108 #[.slice pA pn pc, .slice sA sn sc, .slice rA rn rc, .map (some b'), .bool true]
      ∧ Has wr w.heap.size 31 #[.int .i64 0, .int .i64 0] ∧ so = stopFrom ps rs d true (30 - k) h' k) (fun i _ => 30 - (intOf i).toNat)
    case atStart => exact ⟨0, h, bm, by omega, rfl, HB1.out, HO.out, HM1.out, F1.out, Z1.out, HE.out⟩
    case round =>
      obtain ⟨k, h', b', hk, rfl, hB, hO, hM, hF, hZ, hE⟩ := hrel
      have HB := Lib.hid hB; have HO2 := Lib.hid hO; have HM := Lib.hid hM; have HF := Lib.hid hF; have HZ := Lib.hid hZ; have HE2 := Lib.hid hE
      clear hB hO hM hF hZ hE
      by_cases hkn : k < 30
      · have HPk := Lib.hid fun (W : World) (hb : Below wr.heap.size wr W) => HP.out W (nextB HB.out hb) h' HO2.out b' true (HM.out.keep hb)
        have HSk := Lib.hid fun (W : World) (hb : Below w.heap.size w W) (b3 : Nat) (hm3 : MapAt W b3 (heldF rs (stayH h' (stayS d d 1)))) => HSa.out W hb (stayH h' (stayS d d 1)) (HN.out h' HO2.out) b3 true hm3
        have HQk := Lib.hid (HQ.out k h' hkn)
        cases hen : enterB ps rs (stayH h' (stayS d d 1)) 0 true
        all_goals
          rw [hen] at HSk HQk
          clear hen
          go_wp2
          refine wp_free 4 (by kernel_rfl) (by kernel_rfl) (by kernel_rfl) (by decide) ?_
          intro K hK
          repeat' (first
            | (refine Obl.row (by decide) rfl 108 _ rfl F rfl 108 _ _ HF.out Tryz.underlying108 rfl (by kernel_rfl) ?_)
            | (apply Obl.call (by decide) rfl; (intro w' hb; go_simp; exact ⟨rfl, rfl⟩); (intro w' hb; exact just_c _ w'))
            | (apply Obl.call (by decide) rfl; (intro w' hb; go_simp; exact ⟨rfl, rfl⟩); (intro w' hb; exact staying_c _ _ _ w'))
            | (apply Obl.val (by decide) rfl; (intro w' hb; go_simp; rfl)))
          apply Obl.nil
          apply hK
          intro w2 hb
          simp only [Act.put, List.setIfInBounds_toArray, List.set_cons_zero, List.set_cons_succ, List.drop_succ_cons, List.drop_zero]
          clear hK K
          have HB2 := Lib.hid (nextB HB.out hb); have HF2 := Lib.hid (HF.out.after hb); have HZ2 := Lib.hid (HZ.out.after hb); have HP2 := Lib.hid (HPk.out w2 hb)
          clear hb
          go_wp2_with (first
            | (go_at_call 101; refine HP2.out.mono ?_; rintro e w3 ⟨b3, rfl, hM3, hb3⟩; rw [HFV.out]; have HB3 := Lib.hid (rowB (nextB HB2.out hb3) (show w.heap.size ≤ F from Nat.le_of_succ_le HW1.out) #[.slice pA pn pc, .slice sA sn sc, .slice rA rn rc, .map (some b3), .bool true]); have HF3 := Lib.hid (HF2.out.after hb3); have HZ3 := Lib.hid ((HZ2.out.after hb3).setRow_far (show w.heap.size ≠ F from by have := HW1.out; omega) #[.slice pA pn pc, .slice sA sn sc, .slice rA rn rc, .map (some b3), .bool true]); have HM3 := Lib.hid (hM3.setRow (hM3.ne HF3.out) #[.slice pA pn pc, .slice sA sn sc, .slice rA rn rc, .map (some b3), .bool true]); have HF4 := Lib.hid (HF3.out.setRow #[.slice pA pn pc, .slice sA sn sc, .slice rA rn rc, .map (some b3), .bool true]); clear hb3 hM3)
            | (refine wpList_store_all rfl 108 _ _ rfl F rfl _ rfl 108 _ HF3.out (by kernel_rfl) rfl (by simp [Value.oneCell']) ?_)
            | (refine wpList_load_row rfl 108 _ rfl F rfl 108 _ (0, 0) _ HF4.out Tryz.underlying108 rfl (by kernel_rfl) ?_)
            | (go_at_call 60; refine (HSk.out _ HB3.out b3 HM3.out).mono ?_; rintro e w5 ⟨rfl, hb5⟩; have HB5 := Lib.hid (nextB HB3.out hb5); have HF5 := Lib.hid (HF4.out.after hb5); have HZ5 := Lib.hid (HZ3.out.after hb5); have HM5 := Lib.hid (HM3.out.keep hb5); clear hb5)
            | (refine wpList_store_all rfl 31 _ _ rfl w.heap.size rfl _ rfl 31 _ HZ5.out (by kernel_rfl) rfl (by simp [Value.oneCell']) ?_))
        · go_roundw
          case rel => exact ⟨k + 1, stayH h' (stayS d d 1), b3, by omega, by go_num, HB5.out, HN.out h' HO2.out, HM5.out, HF5.out, HZ5.out, HE2.out.trans (HQk.out.trans (if_neg (by decide)))⟩
          case measure => simp [intOf]; omega
        · have he : so = some ((k : Int) + 1) := HE2.out.trans (HQk.out.trans (if_pos trivial))
          rw [he]
          exact bodyPost_ret (results_row_tmp Tryz.results106 _ _ w.heap.size 31 _ (0, 0) _ rfl (HZ5.out.setRow _) Tryz.underlying31 rfl (by kernel_rfl)) rfl ⟨rfl, rowB HB5.out (by omega) _⟩
      · have hke : k = 30 := by omega
        subst hke
        go_wp2_with (refine wpList_store_all rfl 31 _ _ rfl w.heap.size rfl _ rfl 31 _ HZ.out (by kernel_rfl) rfl (by simp [Value.oneCell']) ?_)
        have he : so = none := HE2.out
        rw [he]
        exact bodyPost_ret (results_row_tmp Tryz.results106 _ _ w.heap.size 31 _ (0, 0) _ rfl (HZ.out.setRow _) Tryz.underlying31 rfl (by kernel_rfl)) rfl ⟨rfl, rowB HB.out (by omega) _⟩
end Go.Proofs
namespace Go.Proofs
open Go.RowKit Go.Shelf Gas
attribute [local go_sem] Oper.semAt_some
attribute [local go_sem ↓] Go.wp_at_zero Go.wp_at_succ

theorem stops_c (c0 c1 c2 c3 c4 : Value) (A : Option Addr) (n c : Nat) (w : World) :
    Calls Tryz.prog 74 #[.agg #[c0, c1, c2, c3, c4], .slice A n c] w fun e w' => e = .returned (.func (.func 107) #[] #[.pointer (some ⟨w.heap.size + 1, 0, none⟩), .pointer (some ⟨w.heap.size + 1 + 1, 0, none⟩)]) ∧
      w' = ((w.alloc (.cells #[c0, c1, c2, c3, c4] 108)).alloc (.cells #[.slice A n c] 23)).alloc (.cells #[.func (.func 106) #[] #[.pointer (some ⟨w.heap.size, 0, none⟩)]] 154) := by
  go_enter Tryz.func74, Tryz.ntmps74
  go_wp2
  exact bodyPost_ret (results_tmp rfl _ _ _) rfl ⟨rfl, rfl⟩

def stopsL (ps rs : List Pr) (a : FS) (ds : List Int) : List Pr := ds.filterMap fun d => (stopAt ps rs a d).map fun m => (d, m)
def spC (x : Pr) : Array Value := #[.agg #[.int .i64 x.1, .int .i64 x.2]]

set_option maxRecDepth 100000 in
set_option maxHeartbeats 4000000 in
theorem stops_in (t : Tm) (h : Nat → Int → Pr) (ho : FolOk t h) (bm : Nat) (kp : Bool) (fb bl bf : Nat) (A : Option Addr) (n c : Nat) (ds : List Int) (hds : ∀ d ∈ ds, 0 ≤ d ∧ d ≤ 40) (hn : n ≤ 1000000) (wB : World) (hi : t.In wB) (hm : MapAt wB bm (heldF t.rs h)) (hf : Has wB fb 108 (folC t (.map (some bm)) kp))
    (hl : Has wB bl 23 #[.slice A n c]) (hbf : Has wB bf 154 #[.func (.func 106) #[] #[.pointer (some ⟨fb, 0, none⟩)]]) (hs : SlOf inC 1 wB A n ds) (l : Nat) (J Jx : List Pr → World → Prop) (W : World) (hJa : AbidesFrom W.heap.size J) (hW : Below wB.heap.size wB W)
    (hY : ∀ pre x W1, J pre W1 → pre.length < n → YieldAt Fence.wide 1 Tryz.prog l (spC x) W1 fun e W' => (e = .returned (.bool true) ∧ J (pre ++ [x]) W' ∧ Below wB.heap.size W1 W') ∨ (e = .returned (.bool false) ∧ Jx (pre ++ [x]) W')) (h0 : J [] W) :
    CallsIn Fence.wide 2 Tryz.prog 107 #[.func (.yield l) #[] #[], .pointer (some ⟨bl, 0, none⟩), .pointer (some ⟨bf, 0, none⟩)] W fun e W' => (∃ v, e = .returned v) ∧ ((∃ ys, ys = stopsL t.ps t.rs (h, kp) ds ∧ J ys W') ∨ (∃ pre : List Pr, True ∧ Jx pre W')) := by
  have HL := Lib.hid hs.1
  have HSt := Lib.hid fun (W' : World) (hb : Below wB.heap.size wB W') (d : Int) (hd : 0 ≤ d ∧ d ≤ 40) => stop1_c t h ho bm kp fb d hd W' (hi.keep hb) (hm.keep hb) (hf.after hb)
  have HLt := Lib.hid hl; have HBf := Lib.hid hbf; have HS := Lib.hid hs; have HY := Lib.hid hY; have HJa := Lib.hid hJa; have HDs := Lib.hid hds
  have HGr := Lib.hid fun (pre : List Pr) (W1 W2 : World) (hj : J pre W1) (hb : Below W1.heap.size W1 W2) => hJa pre W1 W2 none hj ⟨hb.os, hb.tape, hb.output, hb.size, fun i hi _ => hb.block i hi⟩ (fun r e => by cases e)
  have gl := (hl.after hW).cell
  have HW := Lib.hid hW; have H0 := Lib.hid h0
  clear hi hm hf hl hbf hs ho hJa hY hW hds h0
  refine callsIn_of_wp Tryz.func107 rfl trivial ?_ rfl
  simp only [Tryz.ntmps107, List.size_toArray, List.length_cons, List.length_nil, Nat.reduceAdd, Nat.reduceSub, Array.replicate_succ, Array.replicate_zero, List.push_toArray, List.append_toArray, List.nil_append, List.cons_append]
  gi_wp2
  gi_loopw [10] (fun v wr => ∃ (k : Nat), k ≤ n ∧ v = .int .i64 k ∧ J (stopsL t.ps t.rs (h, kp) (ds.take k)) wr ∧ Below wB.heap.size wB wr)
    (fun v _ => n - (intOf v).toNat)
  case atStart => exact ⟨0, by omega, rfl, by simpa [stopsL] using H0.out, HW.out⟩
  case round =>
    obtain ⟨k, hk, rfl, hJ, hB⟩ := hrel
    have HB := Lib.hid hB; have HJ := Lib.hid hJ
    have gf := (HBf.out.after hB).cell
    clear hB hJ gl
    by_cases hkn : k < n
    · have hkl : k < ds.length := by rw [HL.out]; exact hkn
      obtain ⟨b, o, he⟩ := HS.out.addr (by omega)
      have hx := List.getElem?_eq_getElem hkl
      have HD := Lib.hid (HDs.out _ (List.getElem_mem hkl))
      have HTk := Lib.hid (List.take_append_getElem hkl)
      obtain ⟨x, hxx⟩ : ∃ x, x = ds[k] := ⟨_, rfl⟩
      rw [← hxx] at hx HD HTk
      have HST := Lib.hid (show stopsL t.ps t.rs (h, kp) (ds.take (k + 1)) = stopsL t.ps t.rs (h, kp) (ds.take k) ++ (match stopAt t.ps t.rs (h, kp) x with | some m => [(x, m)] | none => []) by
        rw [← HTk.out]; unfold stopsL; rw [List.filterMap_append]; congr 1
        cases hst : stopAt t.ps t.rs (h, kp) x <;> simp [hst])
      have HLe := Lib.hid (show (stopsL t.ps t.rs (h, kp) (ds.take k)).length < n by
        have := List.length_filterMap_le (fun d => (stopAt t.ps t.rs (h, kp) d).map fun m => (d, m)) (ds.take k)
        unfold stopsL; simp at this; omega)
      subst he
      have gx := ((HS.out.keep HB.out).range inC_len hx) 0 _ rfl
      replace gx : wr.cell? ⟨b, o + k, none⟩ = some (.int .i64 x) := by simpa using gx
      have HC := Lib.hid (HSt.out wr HB.out x HD.out)
      clear hx hxx
      cases hst : stopAt t.ps t.rs (h, kp) x with
      | none =>
        rw [hst] at HC HST
        clear hst
        gi_wp2_with (refine ⟨trivial, (callsIn_wide.2 HC.out).mono ?_⟩; rintro e w1 ⟨rfl, hb1⟩; have HB1 := Lib.hid hb1; clear hb1; unfold stV stC)
        refine ⟨(fun f hf => nomatch hf), ?_⟩
        gi_wp2
        go_roundw
        case rel => exact ⟨k + 1, by omega, by go_num, by rw [HST.out, List.append_nil]; exact HGr.out _ _ _ HJ.out (newB HB1.out _), nextB HB.out (newB HB1.out _)⟩
        case measure => simp [intOf]; omega
      | some m =>
        rw [hst] at HC HST
        clear hst
        have HYk := Lib.hid fun (W1 : World) (hj : J (stopsL t.ps t.rs (h, kp) (ds.take k)) W1) => HY.out _ (x, m) W1 hj HLe.out
        gi_wp2_with (refine ⟨trivial, (callsIn_wide.2 HC.out).mono ?_⟩; rintro e w1 ⟨rfl, hb1⟩; have HB1 := Lib.hid hb1; obtain ⟨fn, tmps, assign, body, hy, hR⟩ := HYk.out (w1.alloc (.cells #[.int .i64 x, .int .i64 m] 31)) (HGr.out _ _ _ HJ.out (newB hb1 _)); simp only [spC] at hy hR; clear hb1; unfold stV stC)
        refine hR.mono ?_
        rintro e W3 (⟨rfl, hJ3, hk3⟩ | ⟨rfl, hJx3⟩)
        · have HJ3 := Lib.hid hJ3; have HK3 := Lib.hid hk3
          clear hJ3 hk3
          gi_wp2
          go_roundw
          case rel => exact ⟨k + 1, by omega, by go_num, by rw [HST.out]; exact HJ3.out, (nextB HB.out (newB HB1.out _)).trans HK3.out⟩
          case measure => simp [intOf]; omega
        · gi_wp2
          refine bodyPost_ret (results_none rfl _ _ _) rfl ?_
          exact ⟨⟨_, rfl⟩, .inr ⟨_, trivial, hJx3⟩⟩
    · gi_wp2
      go_end0
      have hkN : k = n := by omega
      exact ⟨⟨_, rfl⟩, .inl ⟨_, rfl, by have := HJ.out; rw [List.take_of_length_le (by rw [HL.out]; omega)] at this; exact this⟩⟩
end Go.Proofs
namespace Go.Proofs
open Go.RowKit Go.Shelf Gas
attribute [local go_sem] Oper.semAt_some
attribute [local go_sem ↓] Go.wp_at_zero Go.wp_at_succ

theorem wp_rangeH {P : Program} {α : Type} {g : Operand} {ps : Array Tmp} {assign body : Code} {Q : Exit → Act → World → Prop} {a : Act} {w w0 : World} (gf : Nat) (lb : Array Value) (hg : a.eval g = .func (.func gf) #[] lb)
    (eg : ∀ args w, (callFunc gf args).run P w = .ok (.enter gf args) w) {encs : α → Array Value} {Kp : World → World → Prop} {S : List α → Prop} {N : Nat} (hseq : SeqStopsK Fence.wide 2 P gf lb encs Kp S (fun _ => True) N w0) (hb0 : Below w0.heap.size w0 w)
    (hKt : ∀ {A B C : World}, Kp A B → Kp B C → Kp A C) (hKb : ∀ (W : World) (l : Nat) (o' : Obj), w.heap.size ≤ l → Kp W (W.putObj l o')) (hps : ∀ x, (encs x).size = ps.size)
    (I : List α → World → Prop) (hI : OwnFrom w.heap.size I) (h0 : I [] w) (Ax : α → Act → World → Prop) (hAx : ∀ x a', OwnFrom w.heap.size (fun (_ : Unit) W => Ax x a' W))
    (hassign : ∀ (l : Nat) (pre : List α) (x : α) (W : World) (K : Act → World → Prop), I pre W → (∀ a' W', KeepsFrom w.heap.size W W' → Kp W W' → I pre W' → Ax x a' W' → K a' W') →
      assign.wpIn (Fence.wide.inRound l) 1 P (Exit.then K (fun _ _ _ => False)) { tmps := (ps.zip (encs x)).foldl (fun t (p, v) => t.setIfInBounds p v) a.tmps, defers := [] } W)
    (hbody : ∀ (l : Nat) (pre : List α) (x : α) (a' : Act) (W : World), I pre W → Ax x a' W → pre.length < N → body.wpIn (Fence.wide.inRound l) 1 P (ownPostG w.heap.size Kp I (fun _ _ _ => False) (pre ++ [x]) W) a' W)
    (hdone : ∀ (D : Nat) (xs : List α) (W : World), w.heap.size ≤ D → S xs → I xs W → W.heap[D]? = some (.deferred (some [])) → Q .normal { a with defers := { target := .collected D, args := #[] } :: a.defers } W) :
    (Code.rangeFunc g ps assign body).wp P Q a w :=
  (wpIn_wide (n := 3)).1 (wpIn_rangeFunc_ownH rfl (by omega) hg trivial eg hseq hKt (fun W l _ o' hl _ _ _ => hKb W l o' hl) hb0 hps I (fun _ _ _ => False) hI (fun _ _ _ _ _ hs _ _ => hs) h0 Ax hAx hassign (fun l pre x a' W _ _ h1 h2 h3 => hbody l pre x a' W h1 h2 h3) hdone (fun _ _ _ _ _ _ h _ => h.elim))

theorem less_c (a b : Pr) (w : World) : Calls Tryz.prog 99 #[.agg #[.int .i64 a.1, .int .i64 a.2], .agg #[.int .i64 b.1, .int .i64 b.2]] w fun e w' => e = .returned (.bool (decide (a.2 < b.2))) ∧ Below w.heap.size w w' := by
  have B := Lib.hid (newB (newB (Below.refl w.heap.size w) (.cells #[.int .i64 a.1, .int .i64 a.2] 31)) (.cells #[.int .i64 b.1, .int .i64 b.2] 31))
  go_enter Tryz.func99, Tryz.ntmps99
  go_wp2
  go_ret
  exact ⟨rfl, B.out⟩

theorem near_c (a b : Pr) (w : World) : Calls Tryz.prog 76 #[.agg #[.int .i64 a.1, .int .i64 a.2], .agg #[.int .i64 b.1, .int .i64 b.2]] w fun e w' => e = .returned (.bool (decide (a.1 < b.1))) ∧ Below w.heap.size w w' := by
  have B := Lib.hid (newB (newB (Below.refl w.heap.size w) (.cells #[.int .i64 a.1, .int .i64 a.2] 31)) (.cells #[.int .i64 b.1, .int .i64 b.2] 31))
  go_enter Tryz.func76, Tryz.ntmps76
  go_wp2
  go_ret
  exact ⟨rfl, B.out⟩

def better (lt : Pr → Pr → Bool) (o : Option Pr) (x : Pr) : Option Pr := match o with | none => some x | some b => if lt x b then some x else some b
def bestOf (lt : Pr → Pr → Bool) (xs : List Pr) : Option Pr := xs.foldl (better lt) none
theorem bestOf_snoc (lt : Pr → Pr → Bool) (xs : List Pr) (x : Pr) : bestOf lt (xs ++ [x]) = better lt (bestOf lt xs) x := by simp [bestOf]
def ltM (a b : Pr) : Bool := decide (a.2 < b.2)
def ltD (a b : Pr) : Bool := decide (a.1 < b.1)
def bestV (o : Option Pr) : Value := stV (o.getD (0, 0)) o.isSome

theorem keeps_set {B : Nat} (W : World) (p : Addr) (hp : p.block < B) (u : Value) : KeepsFrom B W (W.setCell p u) :=
  ⟨by simp, fun k o hk ho _ => (Below.heap_setCell W p u k (by omega)).trans ho⟩
theorem keeps_below {B : Nat} {W W' : World} (h : Below W.heap.size W W') : KeepsFrom B W W' := ⟨h.size, fun k _ _ ho _ => (h.block k (Array.getElem?_eq_some_iff.1 ho).1).trans ho⟩
theorem own_has {β : Type} {B g : Nat} {t : TypeId} {cs : Array Value} : OwnFrom B (fun (_ : β) W => Has W g t cs) := fun _ W W' row hs hg hr => by
  refine (hg.block g hs.lt (fun e => ?_)).trans hs
  obtain ⟨_, o, ho, hc⟩ := hr g e.symm
  unfold Has at hs; rw [hs] at ho; cases ho; cases hc

set_option maxRecDepth 100000 in
set_option maxHeartbeats 4000000 in
theorem best_c (gl : FuncId) (lt : Pr → Pr → Bool) (egl : ∀ args w, (callFunc gl args).run Tryz.prog w = .ok (.enter gl args) w) (hless : ∀ (a b : Pr) (w : World), Calls Tryz.prog gl #[.agg #[.int .i64 a.1, .int .i64 a.2], .agg #[.int .i64 b.1, .int .i64 b.2]] w fun e w' => e = .returned (.bool (lt a b)) ∧ Below w.heap.size w w') (t : Tm) (h : Nat → Int → Pr) (ho : FolOk t h) (bm : Nat) (kp : Bool) (fb bl bf : Nat) (A : Option Addr) (n c : Nat) (ds : List Int) (hds : ∀ d ∈ ds, 0 ≤ d ∧ d ≤ 40) (hn : n ≤ 1000000) (w : World) (hi : t.In w) (hm : MapAt w bm (heldF t.rs h)) (hf : Has w fb 108 (folC t (.map (some bm)) kp))
    (hl : Has w bl 23 #[.slice A n c]) (hbf : Has w bf 154 #[.func (.func 106) #[] #[.pointer (some ⟨fb, 0, none⟩)]]) (hs : SlOf inC 1 w A n ds) :
    Calls Tryz.prog 73 #[.func (.func 107) #[] #[.pointer (some ⟨bl, 0, none⟩), .pointer (some ⟨bf, 0, none⟩)], .func (.func gl) #[] #[]] w fun e w' => e = .returned (bestV (bestOf lt (stopsL t.ps t.rs (h, kp) ds))) ∧ Below w.heap.size w w' := by
  have HSeq : SeqStopsK Fence.wide 2 Tryz.prog 107 #[.pointer (some ⟨bl, 0, none⟩), .pointer (some ⟨bf, 0, none⟩)] spC (fun W W' => Below w.heap.size W W') (fun ys => ys = stopsL t.ps t.rs (h, kp) ds) (fun _ => True) n w :=
    fun l J Jx W hW hJa _ hY h0 => stops_in t h ho bm kp fb bl bf A n c ds hds hn w hi hm hf hl hbf hs l J Jx W hJa hW hY h0
  generalize stopsL t.ps t.rs (h, kp) ds = L at *
  have HLess := Lib.hid hless
  clear hi hm hf hl hbf hs ho hds hless
  have B4 := Lib.hid (newB (newB (newB (newB (Below.refl w.heap.size w) (.cells #[.func (.func gl) #[] #[]] 127)) (.cells #[.int .i64 0, .int .i64 0] 31)) (.cells #[.int .i64 0, .int .i64 0] 31)) (.cells #[.bool false] 4))
  have F3 := Lib.hid ((((Has.new w 127 #[.func (.func gl) #[] #[]]).alloc (.cells #[.int .i64 0, .int .i64 0] 31)).alloc (.cells #[.int .i64 0, .int .i64 0] 31)).alloc (.cells #[.bool false] 4))
  have F4 := Lib.hid (((Has.new' (w.alloc (.cells #[.func (.func gl) #[] #[]] 127)) 31 #[.int .i64 0, .int .i64 0] (g := w.heap.size + 1) (by simp)).alloc (.cells #[.int .i64 0, .int .i64 0] 31)).alloc (.cells #[.bool false] 4))
  have F6 := Lib.hid ((Has.new' ((w.alloc (.cells #[.func (.func gl) #[] #[]] 127)).alloc (.cells #[.int .i64 0, .int .i64 0] 31)) 31 #[.int .i64 0, .int .i64 0] (g := w.heap.size + 1 + 1) (by simp)).alloc (.cells #[.bool false] 4))
  have F7 := Lib.hid (Has.new' (((w.alloc (.cells #[.func (.func gl) #[] #[]] 127)).alloc (.cells #[.int .i64 0, .int .i64 0] 31)).alloc (.cells #[.int .i64 0, .int .i64 0] 31)) 4 #[.bool false] (g := w.heap.size + 1 + 1 + 1) (by simp))
  have hsz : ((((w.alloc (.cells #[.func (.func gl) #[] #[]] 127)).alloc (.cells #[.int .i64 0, .int .i64 0] 31)).alloc (.cells #[.int .i64 0, .int .i64 0] 31)).alloc (.cells #[.bool false] 4)).heap.size = w.heap.size + 1 + 1 + 1 + 1 := by simp
  refine callsIn_wide.1 (callsIn_of_wp_marks (n := 3) Tryz.func73 rfl trivial ?_ rfl)
  refine wpIn_wide.2 ?_
  simp only [Tryz.ntmps73, List.size_toArray, List.length_cons, List.length_nil, Nat.reduceAdd, Nat.reduceSub, Array.replicate_succ, Array.replicate_zero, List.push_toArray, List.append_toArray, List.nil_append, List.cons_append]
  go_wp2
  generalize (((w.alloc (.cells #[.func (.func gl) #[] #[]] 127)).alloc (.cells #[.int .i64 0, .int .i64 0] 31)).alloc (.cells #[.int .i64 0, .int .i64 0] 31)).alloc (.cells #[.bool false] 4) = Wl at *
  obtain ⟨s1, s2⟩ : Wl.heap.size ≤ w.heap.size + 1 + 1 + 1 + 1 ∧ w.heap.size + 1 + 1 + 1 + 1 ≤ Wl.heap.size := by omega
  clear hsz
  refine wp_rangeH (α := Pr) 107 #[.pointer (some ⟨bl, 0, none⟩), .pointer (some ⟨bf, 0, none⟩)] rfl (enters_of Tryz.func107 (by kernel_rfl) rfl) HSeq B4.out (fun h1 h2 => h1.trans h2)
    (fun W l o' hl => ?kb) (fun _ => rfl)
    (fun pre W => Below w.heap.size w W ∧ Wl.heap.size ≤ W.heap.size ∧ Has W w.heap.size 127 #[.func (.func gl) #[] #[]] ∧ Has W (w.heap.size + 1) 31 #[.int .i64 0, .int .i64 0] ∧ Has W (w.heap.size + 1 + 1) 31 #[.int .i64 ((bestOf lt pre).getD (0, 0)).1, .int .i64 ((bestOf lt pre).getD (0, 0)).2] ∧ Has W (w.heap.size + 1 + 1 + 1) 4 #[.bool (bestOf lt pre).isSome]) ?own ?h0
    (fun x a' W => ∃ Bx, Wl.heap.size ≤ Bx ∧ Has W Bx 31 #[.int .i64 x.1, .int .i64 x.2] ∧ a' = { tmps := #[.func (.func 107) #[] #[.pointer (some ⟨bl, 0, none⟩), .pointer (some ⟨bf, 0, none⟩)], .func (.func gl) #[] #[], undef, .pointer (some ⟨w.heap.size, 0, none⟩), .pointer (some ⟨w.heap.size + 1, 0, none⟩), .bool false, .pointer (some ⟨w.heap.size + 1 + 1, 0, none⟩), .pointer (some ⟨w.heap.size + 1 + 1 + 1, 0, none⟩), .pointer (some ⟨Bx, 0, none⟩),
      .func (.func 107) #[] #[.pointer (some ⟨bl, 0, none⟩), .pointer (some ⟨bf, 0, none⟩)], .agg #[.int .i64 x.1, .int .i64 x.2], undef, undef, undef, undef, undef, undef, undef, undef, undef, undef, undef], defers := [] }) ?ownA ?assign ?body ?done
  case kb => exact ⟨rfl, rfl, rfl, by simp [World.putObj], fun i hi => World.putObj_heap_other (by omega)⟩
  case own =>
    rintro pre W W' row ⟨a1, a2, a3, a4, a5, a6⟩ hg hr
    refine ⟨a1.trans (below_grown hg (fun r e => by have := (hr r e).1; omega) (by omega)), Nat.le_trans a2 hg.size, own_has () _ _ _ a3 hg hr, own_has () _ _ _ a4 hg hr, own_has () _ _ _ a5 hg hr, own_has () _ _ _ a6 hg hr⟩
  case h0 => exact ⟨B4.out, Nat.le_refl _, F3.out, F4.out, F6.out, F7.out⟩
  case ownA =>
    rintro x a' _ W W' row ⟨Bx, h1, h2, h3⟩ hg hr
    exact ⟨Bx, h1, own_has () _ _ _ h2 hg hr, h3⟩
  case assign =>
    intro l pre x W K hI hK
    have HK := Lib.hid hK
    clear hK
    unfold spC
    gi_wp2
    obtain ⟨a1, a2, a3, a4, a5, a6⟩ := hI
    exact HK.out _ _ (KeepsFrom.of_grownBy (World.grownBy_alloc W _ none) (fun j e => by cases e)) ((Below.refl W.heap.size W).alloc (Nat.le_refl _) _ |>.mono (by omega)) ⟨a1.trans (((Below.refl W.heap.size W).alloc (Nat.le_refl _) _).mono (by omega)), by simp; omega, a3.alloc _, a4.alloc _, a5.alloc _, a6.alloc _⟩ ⟨W.heap.size, a2, Has.new _ _ _, rfl⟩
  case body =>
    rintro l pre x a' W hI ⟨Bx, hBx, hX, rfl⟩ hlen
    obtain ⟨a1, a2, a3, a4, a5, a6⟩ := hI
    have E := Lib.hid (bestOf_snoc lt pre x)
    have HB := Lib.hid a1; have H3 := Lib.hid a3; have H4 := Lib.hid a4; have H6 := Lib.hid a5; have H7 := Lib.hid a6; have HX := Lib.hid hX
    have c3 := a3.cell; have c6 := a5.cell; have c7 := a6.cell; have f6 := a5.frozen; have f7 := a6.frozen; have cx := hX.cell
    clear a1 a3 a4 a5 a6 hX
    cases hbo : bestOf lt pre with
    | none =>
      rw [hbo] at E c6 c7 H6 H7
      clear hbo
      simp only [Option.getD_none, Option.isSome_none] at c6 c7
      gi_wp2
      repeat (refine ⟨(fun f hf => nomatch hf), ?_⟩; gi_wp2)
      refine ⟨((keeps_set W _ (by show w.heap.size + 1 + 1 < _; omega) _).trans (keeps_set _ _ (by show w.heap.size + 1 + 1 < _; omega) _)).trans (keeps_set _ _ (by show w.heap.size + 1 + 1 + 1 < _; omega) _), Below.setCell (Below.setCell (Below.setCell (Below.refl _ W) (show w.heap.size ≤ w.heap.size + 1 + 1 by omega) _) (show w.heap.size ≤ w.heap.size + 1 + 1 by omega) _) (show w.heap.size ≤ w.heap.size + 1 + 1 + 1 by omega) _,
        HB.out.trans (Below.setCell (Below.setCell (Below.setCell (Below.refl _ W) (show w.heap.size ≤ w.heap.size + 1 + 1 by omega) _) (show w.heap.size ≤ w.heap.size + 1 + 1 by omega) _) (show w.heap.size ≤ w.heap.size + 1 + 1 + 1 by omega) _), by simpa using a2,
        ((H3.out.far (by show w.heap.size ≠ w.heap.size + 1 + 1; omega) _).far (by show w.heap.size ≠ w.heap.size + 1 + 1; omega) _).far (by show w.heap.size ≠ w.heap.size + 1 + 1 + 1; omega) _,
        ((H4.out.far (by show w.heap.size + 1 ≠ w.heap.size + 1 + 1; omega) _).far (by show w.heap.size + 1 ≠ w.heap.size + 1 + 1; omega) _).far (by show w.heap.size + 1 ≠ w.heap.size + 1 + 1 + 1; omega) _,
        (((H6.out.set 0 _).set 1 _).far (by show w.heap.size + 1 + 1 ≠ w.heap.size + 1 + 1 + 1; omega) _).eq (by rw [E.out]; rfl),
        ((((H7.out.far (by show w.heap.size + 1 + 1 + 1 ≠ w.heap.size + 1 + 1; omega) _).far (by show w.heap.size + 1 + 1 + 1 ≠ w.heap.size + 1 + 1; omega) _).set 0 _).eq (by rw [E.out]; rfl))⟩
    | some b =>
      rw [hbo] at E c6 c7 H6 H7
      clear hbo
      simp only [Option.getD_some, Option.isSome_some] at c6 c7
      have HLs := Lib.hid fun (W' : World) => CallsIn.inRound l ((callsIn_wide (n := 0)).2 (HLess.out x b W'))
      cases hlt : lt x b
      all_goals
        have HLt := Lib.hid hlt
        rw [hlt] at HLs
        clear hlt
        gi_wp2_with (refine ⟨trivial, (HLs.out _).mono ?_⟩; rintro e w1 ⟨rfl, hb1⟩; have HB1 := Lib.hid hb1; have c6 := (H6.out.after hb1).cell; have f6 := (H6.out.after hb1).frozen; have c7 := (H7.out.after hb1).cell; have f7 := (H7.out.after hb1).frozen; have cx := (HX.out.after hb1).cell; clear hb1)
      · refine ⟨keeps_below HB1.out, HB1.out.mono (by omega), nextB HB.out HB1.out, Nat.le_trans a2 HB1.out.size, H3.out.after HB1.out, H4.out.after HB1.out, (H6.out.after HB1.out).eq ?_, (H7.out.after HB1.out).eq ?_⟩
        · rw [E.out]; simp [better, HLt.out]
        · rw [E.out]; simp [better, HLt.out]
      · have hlt := HLt
        refine ⟨(keeps_below HB1.out).trans (((keeps_set w1 _ (by show w.heap.size + 1 + 1 < _; omega) _).trans (keeps_set _ _ (by show w.heap.size + 1 + 1 < _; omega) _)).trans (keeps_set _ _ (by show w.heap.size + 1 + 1 + 1 < _; omega) _)), (HB1.out.mono (by omega)).trans (Below.setCell (Below.setCell (Below.setCell (Below.refl _ w1) (show w.heap.size ≤ w.heap.size + 1 + 1 by omega) _) (show w.heap.size ≤ w.heap.size + 1 + 1 by omega) _) (show w.heap.size ≤ w.heap.size + 1 + 1 + 1 by omega) _),
          (nextB HB.out HB1.out).trans (Below.setCell (Below.setCell (Below.setCell (Below.refl _ w1) (show w.heap.size ≤ w.heap.size + 1 + 1 by omega) _) (show w.heap.size ≤ w.heap.size + 1 + 1 by omega) _) (show w.heap.size ≤ w.heap.size + 1 + 1 + 1 by omega) _), by have := HB1.out.size; simp; omega,
          (((H3.out.after HB1.out).far (by show w.heap.size ≠ w.heap.size + 1 + 1; omega) _).far (by show w.heap.size ≠ w.heap.size + 1 + 1; omega) _).far (by show w.heap.size ≠ w.heap.size + 1 + 1 + 1; omega) _,
          (((H4.out.after HB1.out).far (by show w.heap.size + 1 ≠ w.heap.size + 1 + 1; omega) _).far (by show w.heap.size + 1 ≠ w.heap.size + 1 + 1; omega) _).far (by show w.heap.size + 1 ≠ w.heap.size + 1 + 1 + 1; omega) _,
          ((((H6.out.after HB1.out).set 0 _).set 1 _).far (by show w.heap.size + 1 + 1 ≠ w.heap.size + 1 + 1 + 1; omega) _).eq (by rw [E.out]; simp [better, hlt.out]),
          (((((H7.out.after HB1.out).far (by show w.heap.size + 1 + 1 + 1 ≠ w.heap.size + 1 + 1; omega) _).far (by show w.heap.size + 1 + 1 + 1 ≠ w.heap.size + 1 + 1; omega) _).set 0 _).eq (by rw [E.out]; simp [better, hlt.out]))⟩
  case done =>
    rintro D ys W hD hS ⟨a1, a2, a3, a4, a5, a6⟩ hK
    have hS' : ys = L := hS
    subst hS'
    have HB := Lib.hid a1; have H4 := Lib.hid a4; have H6 := Lib.hid a5; have H7 := Lib.hid a6; have HK := Lib.hid hK
    clear a1 a3 a4 a5 a6 hS hK HSeq
    go_wp2
    have c6 := H6.out.cell; have c7 := H7.out.cell; have c4 := H4.out.cell; have f4 := H4.out.frozen
    go_region
    clear c6 c7 c4 f4
    have R4 := Lib.hid ((((H4.out.set 0 (.int .i64 ((bestOf lt ys).getD (0, 0)).1)).set 1 (.int .i64 ((bestOf lt ys).getD (0, 0)).2)).drew).eq (show _ = #[.int .i64 ((bestOf lt ys).getD (0, 0)).1, .int .i64 ((bestOf lt ys).getD (0, 0)).2] from rfl))
    have HB2 := Lib.hid ((Below.setCell (Below.setCell HB.out (show w.heap.size ≤ w.heap.size + 1 by omega) (.int .i64 ((bestOf lt ys).getD (0, 0)).1) (p := ⟨w.heap.size + 1, 0, none⟩)) (show w.heap.size ≤ w.heap.size + 1 by omega) (.int .i64 ((bestOf lt ys).getD (0, 0)).2) (p := ⟨w.heap.size + 1, 1, none⟩)).drew)
    have HKd := Lib.hid (show (((W.setCell ⟨w.heap.size + 1, 0, none⟩ (.int .i64 ((bestOf lt ys).getD (0, 0)).1)).setCell ⟨w.heap.size + 1, 1, none⟩ (.int .i64 ((bestOf lt ys).getD (0, 0)).2)).drew).heap[D]? = some (.deferred (some [])) from
      (Below.heap_setCell _ ⟨w.heap.size + 1, 1, none⟩ _ D (by show D ≠ w.heap.size + 1; omega)).trans ((Below.heap_setCell W ⟨w.heap.size + 1, 0, none⟩ _ D (by show D ≠ w.heap.size + 1; omega)).trans HK.out))
    generalize ((W.setCell ⟨w.heap.size + 1, 0, none⟩ (.int .i64 ((bestOf lt ys).getD (0, 0)).1)).setCell ⟨w.heap.size + 1, 1, none⟩ (.int .i64 ((bestOf lt ys).getD (0, 0)).2)).drew = W2 at *
    go_wp2
    refine leaves_marks [D] W2 (by simp) (fun D' hD' => by simp at hD'; subst hD'; exact HKd.out) (fun w' y1 y2 y3 y4 y5 => ?_)
    have hw4 : Has w' (w.heap.size + 1) 31 #[.int .i64 ((bestOf lt ys).getD (0, 0)).1, .int .i64 ((bestOf lt ys).getD (0, 0)).2] := (y5 _ (by simp; omega)).trans R4.out
    refine ⟨_, results_row_tmp Tryz.results73 _ _ (w.heap.size + 1) 31 _ (0, 0) _ rfl hw4 Tryz.underlying31 rfl (by kernel_rfl), rfl, ⟨y2.trans HB2.out.os, y3.trans HB2.out.tape, y4.trans HB2.out.output, by rw [y1]; exact HB2.out.size, fun i hi => (y5 i (by simp; omega)).trans (HB2.out.block i hi)⟩⟩
end Go.Proofs
namespace Go.Proofs
open Go.RowKit Go.Shelf Gas
attribute [local go_sem ↓] Go.wp_at_zero Go.wp_at_succ

def SsOk (t : Tm) : Prop := ∀ d ∈ t.ss, 0 ≤ d ∧ d ≤ 40
theorem incB_mem : ∀ (xs : List Int) (a : Int), 0 ≤ a → incB a xs = true → ∀ d ∈ xs, 0 ≤ d ∧ d ≤ 40
  | [], _, _, _, d, hd => by simp at hd
  | x :: r, a, ha, h, d, hd => by
    simp only [incB, inB, Bool.and_eq_true, decide_eq_true_eq] at h
    rcases List.mem_cons.1 hd with rfl | hd
    · omega
    · exact incB_mem r x (by omega) h.2 d hd
theorem defined_ss {t : Tm} {dive : List St} {room : Int} (h : definedB t.ps t.ss t.rs dive room = true) : SsOk t := by
  simp only [definedB, tableB, manB, diveB, Bool.and_eq_true, decide_eq_true_eq] at h
  exact incB_mem t.ss 0 (by omega) h.1.1.2

/-- The stop from somewhere: its value, and whether there is one. -/
def stopR (t : Tm) (a : FS) : Option Pr := if enterB t.ps t.rs a.1 0 a.2 then some (0, 0) else bestOf ltM (stopsL t.ps t.rs a t.ss)

set_option maxHeartbeats 4000000 in
theorem stop_c (t : Tm) (hss : SsOk t) (h : Nat → Int → Pr) (ho : FolOk t h) (bm : Nat) (kp : Bool) (w : World) (hi : t.In w) (hm : MapAt w bm (heldF t.rs h)) :
    Calls Tryz.prog 59 #[FolV t bm kp] w fun e w' => e = .returned (bestV (stopR t (h, kp))) ∧ Below w.heap.size w w' := by
  have HSa := Lib.hid fun (w' : World) (hb : Below w.heap.size w w') => safe_c t h ho bm kp w' (hi.keep hb) (hm.keep hb)
  have HBe := Lib.hid fun (w' : World) (hb : Below w.heap.size w w') (fb bl bf : Nat) (hf : Has w' fb 108 (folC t (.map (some bm)) kp)) (hl : Has w' bl 23 #[.slice t.sA t.sn t.sc]) (hbf : Has w' bf 154 #[.func (.func 106) #[] #[.pointer (some ⟨fb, 0, none⟩)]]) =>
    best_c 99 ltM (enters_of Tryz.func99 (by kernel_rfl) rfl) (fun a b w => less_c a b w) t h ho bm kp fb bl bf t.sA t.sn t.sc t.ss hss ho.tok.small.s w' (hi.keep hb) (hm.keep hb) hf hl hbf (hi.ss.keep hb)
  clear hi hm ho hss
  have HB0 := Lib.hid (newB (newB (Below.refl w.heap.size w) (.cells (folC t (.map (some bm)) kp) 108)) (.cells #[.int .i64 0, .int .i64 0] 31))
  have F0 := Lib.hid ((Has.new w 108 (folC t (.map (some bm)) kp)).alloc (.cells #[.int .i64 0, .int .i64 0] 31))
  have Z0 := Lib.hid (Has.new' (w.alloc (.cells (folC t (.map (some bm)) kp) 108)) 31 #[.int .i64 0, .int .i64 0] (g := w.heap.size + 1) (by simp))
  cases hen : enterB t.ps t.rs h 0 kp
  · have HE := Lib.hid (show stopR t (h, kp) = bestOf ltM (stopsL t.ps t.rs (h, kp) t.ss) by simp [stopR, hen])
    rw [HE.out]
    rw [hen] at HSa
    clear HE hen
    unfold bestV stV at *
    generalize bestOf ltM (stopsL t.ps t.rs (h, kp) t.ss) = bo at *
    generalize bo.getD (0, 0) = bv at *
    generalize bo.isSome = bs at *
    obtain ⟨pA, sA, rA, pn, pc, sn, sc, rn, rc, ps, ss, rs⟩ := t
    simp only [folC, FolV] at *
    go_enter Tryz.func59, Tryz.ntmps59
    go_wp2_with (first
      | (go_at_call 60; refine (HSa.out _ HB0.out).mono ?_; rintro e w1 ⟨rfl, hb1⟩; have HB1 := Lib.hid (nextB HB0.out hb1); have F1 := Lib.hid (F0.out.after hb1); have Z1 := Lib.hid (Z0.out.after hb1); have c1 := F1.out.cell; clear hb1)
      | (go_at_call 74; refine (stops_c _ _ _ _ _ _ _ _ _).mono ?_; rintro e w2 ⟨rfl, rfl⟩)
      | (go_at_call 73; refine (HBe.out _ (newB (newB (newB HB1.out _) _) _) w1.heap.size (w1.heap.size + 1) (w1.heap.size + 1 + 1) (((Has.new w1 108 _).alloc _).alloc _) ((Has.new' _ 23 _ (by simp)).alloc _) (Has.new' _ 154 _ (by simp))).mono ?_; rintro e w3 ⟨rfl, hb3⟩; have HB3 := Lib.hid (nextB (newB (newB (newB HB1.out _) _) _) hb3); have Z3 := Lib.hid ((((Z1.out.alloc _).alloc _).alloc _).after hb3); clear hb3)
      | (refine wpList_store_all rfl 31 _ _ rfl (w.heap.size + 1) rfl _ rfl 31 _ Z3.out (by kernel_rfl) rfl (by simp [Value.oneCell']) ?_))
    exact bodyPost_ret (results_row_tmp Tryz.results59 _ _ (w.heap.size + 1) 31 _ (0, 0) _ rfl (Z3.out.setRow _) Tryz.underlying31 rfl (by kernel_rfl)) rfl ⟨rfl, rowB HB3.out (by omega) _⟩
  · have HE := Lib.hid (show stopR t (h, kp) = some (0, 0) by simp [stopR, hen])
    rw [HE.out]
    rw [hen] at HSa
    clear hen HE
    obtain ⟨pA, sA, rA, pn, pc, sn, sc, rn, rc, ps, ss, rs⟩ := t
    simp only [folC, FolV] at *
    go_enter Tryz.func59, Tryz.ntmps59
    go_wp2_with (first
      | (go_at_call 60; refine (HSa.out _ HB0.out).mono ?_; rintro e w1 ⟨rfl, hb1⟩; have HB1 := Lib.hid (nextB HB0.out hb1); have Z1 := Lib.hid (Z0.out.after hb1); clear hb1)
      | (refine wpList_store_all rfl 31 _ _ rfl (w.heap.size + 1) rfl _ rfl 31 _ Z1.out (by kernel_rfl) rfl (by simp [Value.oneCell']) ?_))
    exact bodyPost_ret (results_row_tmp Tryz.results59 _ _ (w.heap.size + 1) 31 _ (0, 0) _ rfl (Z1.out.setRow _) Tryz.underlying31 rfl (by kernel_rfl)) rfl ⟨rfl, rowB HB1.out (by omega) _⟩
end Go.Proofs
namespace Go.Proofs
open Go.RowKit Go.Shelf Gas
attribute [local go_sem ↓] Go.wp_at_zero Go.wp_at_succ

def stopF (t : Tm) (dive : List St) : Pr × Int :=
  if definedB t.ps t.ss t.rs dive 1 then (match stopR t (folS t.ps t.rs (h0, true) dive) with | some s => (s, 0) | none => ((0, 0), 5)) else ((0, 0), 2)
def stE (r : Pr × Int) : Value := .tuple #[.agg #[.int .i64 r.1.1, .int .i64 r.1.2], .int .i64 r.2]

set_option maxHeartbeats 4000000 in
theorem Stop_c (t : Tm) (ht : t.Small) (A : Option Addr) (n c : Nat) (dive : List St) (hn : n ≤ 100000) (w : World) (hi : t.In w) (hd : SlOf St.cs 4 w A n dive) :
    Calls Tryz.prog 16 #[t.tab, t.man, .slice A n c] w fun e w' => e = .returned (stE (stopF t dive)) ∧ Below w.heap.size w w' := by
  have HD := Lib.hid fun (w' : World) (hb : Below w.heap.size w w') => defined_c t ht A n c dive 1 (by omega) (by omega) w' (hi.keep hb) (hd.keep hb)
  have HOK := Lib.hid fun h => defined_ok ht hi (dive := dive) (room := 1) h
  have B0 := Lib.hid (newB (newB (newB (Below.refl w.heap.size w) (.cells #[.slice t.pA t.pn t.pc, .slice t.sA t.sn t.sc] 25)) (.cells #[.slice t.rA t.rn t.rc] 28)) (.cells #[.int .i64 0, .int .i64 0] 31))
  have T0 := Lib.hid (((Has.new w 25 #[.slice t.pA t.pn t.pc, .slice t.sA t.sn t.sc]).alloc (.cells #[.slice t.rA t.rn t.rc] 28)).alloc (.cells #[.int .i64 0, .int .i64 0] 31))
  have M0 := Lib.hid ((Has.new' (w.alloc (.cells #[.slice t.pA t.pn t.pc, .slice t.sA t.sn t.sc] 25)) 28 #[.slice t.rA t.rn t.rc] (g := w.heap.size + 1) (by simp)).alloc (.cells #[.int .i64 0, .int .i64 0] 31))
  have Z0 := Lib.hid (Has.new' ((w.alloc (.cells #[.slice t.pA t.pn t.pc, .slice t.sA t.sn t.sc] 25)).alloc (.cells #[.slice t.rA t.rn t.rc] 28)) 31 #[.int .i64 0, .int .i64 0] (g := w.heap.size + 1 + 1) (by simp))
  cases hdb : definedB t.ps t.ss t.rs dive 1
  · have HE := Lib.hid (show stopF t dive = ((0, 0), 2) by simp [stopF, hdb])
    rw [hdb] at HD
    rw [HE.out]
    clear hi hd HOK hdb
    obtain ⟨pA, sA, rA, pn, pc, sn, sc, rn, rc, ps, ss, rs⟩ := t
    simp only [Tm.tab, Tm.man] at *
    go_enter Tryz.func16, Tryz.ntmps16
    go_wp2_with (first
      | (go_at_call 56; refine (HD.out _ B0.out).mono ?_; rintro e w1 ⟨rfl, hb1⟩; have HB1 := Lib.hid (nextB B0.out hb1); have Z1 := Lib.hid (Z0.out.after hb1); clear hb1)
      | (refine wpList_store_all rfl 31 _ _ rfl (w.heap.size + 1 + 1) rfl _ rfl 31 _ Z1.out (by kernel_rfl) rfl (by simp [Value.oneCell']) ?_))
    exact bodyPost_ret (results_row_tmp Tryz.results16 _ _ (w.heap.size + 1 + 1) 31 _ (0, 0) _ rfl (Z1.out.setRow _) Tryz.underlying31 rfl (by kernel_rfl)) rfl ⟨rfl, rowB HB1.out (by omega) _⟩
  · obtain ⟨hok, hs1, _⟩ := HOK.out hdb
    have hss := defined_ss hdb
    have HBg := Lib.hid fun (w' : World) (hb : Below w.heap.size w w') => begin_c t hok w' (hi.keep hb)
    have HFo := Lib.hid fun (w' : World) (hb : Below w.heap.size w w') (bm : Nat) (hm : MapAt w' bm (heldF t.rs h0)) => follow_c t h0 (h0_ok hok) bm true A n c dive (by omega) hs1 w' (hi.keep hb) hm (hd.keep hb)
    have ho1 := FolOk.folS dive (h0, true) (h0_ok hok) hs1
    have HE0 := Lib.hid (show stopF t dive = (match stopR t (folS t.ps t.rs (h0, true) dive) with | some s => (s, 0) | none => ((0, 0), 5)) by simp [stopF, hdb])
    obtain ⟨a1, ha1⟩ : ∃ a, a = folS t.ps t.rs (h0, true) dive := ⟨_, rfl⟩
    rw [← ha1] at HFo HE0 ho1
    clear ha1
    obtain ⟨h1, k1⟩ := a1
    have HSt := Lib.hid fun (w' : World) (hb : Below w.heap.size w w') (bm : Nat) (hm : MapAt w' bm (heldF t.rs h1)) => stop_c t hss h1 ho1 bm k1 w' (hi.keep hb) hm
    rw [hdb] at HD
    rw [HE0.out]
    unfold bestV stV at HSt
    clear hi hd HOK hdb hok hs1 ho1 hss HE0
    cases hr : stopR t (h1, k1)
    all_goals
      rw [hr] at HSt
      clear hr
      obtain ⟨pA, sA, rA, pn, pc, sn, sc, rn, rc, ps, ss, rs⟩ := t
      have HFV := Lib.hid (show ∀ b k, FolV ⟨pA, sA, rA, pn, pc, sn, sc, rn, rc, ps, ss, rs⟩ b k = .agg #[.slice pA pn pc, .slice sA sn sc, .slice rA rn rc, .map (some b), .bool k] from fun _ _ => rfl)
      simp only [Tm.tab, Tm.man, Option.getD_none, Option.getD_some, Option.isSome_none, Option.isSome_some] at *
      go_enter Tryz.func16, Tryz.ntmps16
      go_wp2_with (first
        | (go_at_call 56; refine (HD.out _ B0.out).mono ?_; rintro e w1 ⟨rfl, hb1⟩; have HB1 := Lib.hid (nextB B0.out hb1); have ct := (T0.out.after hb1).cell; have cm := (M0.out.after hb1).cell; have Z1 := Lib.hid (Z0.out.after hb1); clear hb1)
        | (go_at_call 57; refine (HBg.out _ HB1.out).mono ?_; rintro e w3 ⟨bm, rfl, hM, hb3⟩; rw [HFV.out]; have HM3 := Lib.hid hM; have HB3 := Lib.hid (nextB HB1.out hb3); have Z3 := Lib.hid (Z1.out.after hb3); clear hM hb3)
        | (go_at_call 58; refine (HFo.out _ HB3.out _ HM3.out).mono ?_; rintro e w4 ⟨bm4, rfl, hM, hb4⟩; rw [HFV.out]; have HB4 := Lib.hid (nextB HB3.out hb4); have HM4 := Lib.hid hM; have Z4 := Lib.hid (Z3.out.after hb4); clear hM hb4)
        | (go_at_call 59; refine (HSt.out _ HB4.out bm4 HM4.out).mono ?_; rintro e w5 ⟨rfl, hb5⟩; have HB5 := Lib.hid fun (o : Obj) => newB (nextB HB4.out hb5) o; have Z5 := Lib.hid fun (o : Obj) => (Z4.out.after hb5).alloc o; clear hb5)
        | (refine wpList_store_all rfl 31 _ _ rfl (w.heap.size + 1 + 1) rfl _ rfl 31 _ (Z5.out _) (by kernel_rfl) rfl (by simp [Value.oneCell']) ?_))
      exact bodyPost_ret (results_row_tmp Tryz.results16 _ _ (w.heap.size + 1 + 1) 31 _ (0, 0) _ rfl ((Z5.out _).setRow _) Tryz.underlying31 rfl (by kernel_rfl)) rfl ⟨rfl, rowB (HB5.out _) (by omega) _⟩
end Go.Proofs
