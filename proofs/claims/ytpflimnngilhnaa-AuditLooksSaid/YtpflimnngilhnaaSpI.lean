/- The document's plan (layer 41). -/
import Derived.Test.YtpflimnngilhnaaSpH
namespace Go.Proofs.Ytpflimnngilhnaa.rh
open Go.ChangeShapes Go.WideShapes Go.ChangeAt Go.RowKit
set_option linter.unusedVariables false
set_option linter.unusedSimpArgs false
/-- The list of those that are done, and the rows so far, each in memory of its own. -/
def RD (w : World) (B : Nat) (vd vr : Value) (rows : List Value) (dn : List Int) (RS : List (List Int)) : Prop :=
  OI w B vd dn ∧ OM w B vr rows RS ∧ (∀ g, vd.ownBlock = some g → vr.ownBlock ≠ some g) ∧ ∀ (i : Nat) (u : Value), rows[i]? = some u → ∀ g, vd.ownBlock = some g → u.ownBlock ≠ some g
theorem RD.below {w w' : World} {B : Nat} {vd vr : Value} {rows : List Value} {dn : List Int} {RS : List (List Int)} (h : RD w B vd vr rows dn RS) (hb : Below w.heap.size w w') : RD w' B vd vr rows dn RS :=
  ⟨h.1.below hb, h.2.1.below hb, h.2.2⟩
theorem RD.nil (w : World) (B : Nat) : RD w B (.slice none 0 0) (.slice none 0 0) [] [] [] :=
  ⟨oi_nil w B, OM.nil w B, fun g h => by simp [Value.ownBlock] at h, fun i u h => by simp at h⟩
theorem om_lt {w : World} {B : Nat} {v : Value} {rows : List Value} {L : List (List Int)} (h : OM w B v rows L) {i : Nat} {u : Value} (hu : rows[i]? = some u) : ∀ g, u.ownBlock = some g → B ≤ g ∧ g < w.heap.size := by
  have hl := (List.getElem?_eq_some_iff.1 hu).1
  have hL : rows.length = L.length := by have := h.1.1; omega
  obtain ⟨u', hu', ho⟩ := h.2 i (by omega)
  rw [hu] at hu'
  cases hu'
  exact own_ltI ho
/-- some more are done. -/
theorem RD.more {w w' : World} {B : Nat} {vd vd' vr : Value} {rows : List Value} {dn us : List Int} {RS : List (List Int)} (h : RD w B vd vr rows dn RS) (ho : OI w' B vd' (dn ++ us)) (hg : w.grownBy w' vd.ownBlock) (hb : vd'.ownBlock = vd.ownBlock ∨ vd'.ownBlock = some w.heap.size) : RD w' B vd' vr rows (dn ++ us) RS := by
  obtain ⟨h1, h2, h3, h4⟩ := h
  refine ⟨ho, om_blocks h2 (fun g e => hg.block g (own_lt41 h2.1 g e).2 fun e2 => h3 g e2.symm e) (fun i u hu g e => hg.block g (om_lt h2 hu g e).2 fun e2 => h4 i u hu g e2.symm e), fun g e e2 => ?_, fun i u hu g e e2 => ?_⟩
  · rcases hb with hb | hb
    · exact h3 g (by rw [← hb]; exact e) e2
    · rw [hb] at e
      have := (own_lt41 h2.1 g e2).2
      cases e; omega
  · rcases hb with hb | hb
    · exact h4 i u hu g (by rw [← hb]; exact e) e2
    · rw [hb] at e
      have := (om_lt h2 hu g e2).2
      cases e; omega
/-- one more row. -/
theorem RD.row {w w' : World} {B : Nat} {vd vr vr' u : Value} {rows : List Value} {dn xs : List Int} {RS : List (List Int)} (h : RD w B vd vr rows dn RS) (ho : OM w' B vr' (rows ++ [u]) (RS ++ [xs])) (hg : w.grownBy w' vr.ownBlock) (hb : vr'.ownBlock = vr.ownBlock ∨ vr'.ownBlock = some w.heap.size) (hu : ∀ g, vd.ownBlock = some g → u.ownBlock ≠ some g) : RD w' B vd vr' (rows ++ [u]) dn (RS ++ [xs]) := by
  obtain ⟨h1, h2, h3, h4⟩ := h
  refine ⟨oi_block h1 (fun g e => hg.block g (own_ltI h1 g e).2 fun e2 => h3 g e e2.symm), ho, fun g e e2 => ?_, fun i u' hu' g e => ?_⟩
  · rcases hb with hb | hb
    · exact h3 g e (by rw [← hb]; exact e2)
    · rw [hb] at e2
      have := (own_ltI h1 g e).2
      cases e2; omega
  · by_cases hi : i < rows.length
    · rw [List.getElem?_append_left hi] at hu'
      exact h4 i u' hu' g e
    · rw [List.getElem?_append_right (by omega)] at hu'
      have hi0 : i - rows.length = 0 := by
        have := (List.getElem?_eq_some_iff.1 hu').1
        simp at this; omega
      rw [hi0] at hu'
      simp at hu'
      subst hu'
      exact hu g e
def PlPost (w : World) (L : List (List Int)) (n k : Nat) (e : Ending) (w' : World) : Prop :=
  ∃ t v, e = .returned v ∧ (∀ s, s < t → (dnT L n k s).length < n) ∧ ¬ (dnT L n k t).length < n ∧ MV w' v (roT L n k t) ∧ Below w.heap.size w w'
theorem rdB_take {L : List (List Int)} {dn : List Int} {i j : Nat} {q : Bool} (hj : j < (L.getD i []).length) (b : Bool) (hq : decide ((L.getD i []).getD j 0 ∈ dn) = q) (h : (!decide ((i : Int) ∈ dn) && ((L.getD i []).take j).all (fun a => decide (a ∈ dn))) = b) :
    (!decide ((i : Int) ∈ dn) && ((L.getD i []).take (j + 1)).all (fun a => decide (a ∈ dn))) = (b && q) := by
  rw [List.take_add_one, List.getElem?_eq_getElem hj, List.all_append, ← h, ← hq, List.getD_eq_getElem?_getD (l := L.getD i []), List.getElem?_eq_getElem hj, Bool.and_assoc]
  simp only [Option.toList_some, List.all_cons, List.all_nil, Bool.and_true, Option.getD_some]
theorem dnT_grows {L : List (List Int)} (hv : Valid L) {n k : Nat} (hk : 1 ≤ k) : ∀ t, (∀ s, s < t → (dnT L n k s).length < n) → t ≤ (dnT L n k t).length := by
  intro t
  induction t with
  | zero => intro _; exact Nat.zero_le _
  | succ t ih =>
    intro h
    have h1 := ih fun s hs => h s (by omega)
    have h2 := rdy_some (k := k) hv hk (dnT_ok L n k t) (h t (by omega))
    rw [dnT, List.length_append]; omega
theorem dnT_t {L : List (List Int)} (hv : Valid L) {n k t : Nat} (hk : 1 ≤ k) (h : ∀ s, s < t → (dnT L n k s).length < n) : t ≤ n :=
  Nat.le_trans (dnT_grows hv hk t h) (dn_le (dnT_ok L n k t))
set_option maxRecDepth 20000 in
set_option maxHeartbeats 4000000 in
theorem rplan_of (a : Option Addr) (n cap k : Nat) (W : Int) (L : List (List Int)) (w : World) (h : MV w (.slice a n cap) L) (hV : Valid L) (hn : n ≤ 1000) (hk1 : 1 ≤ k) (hk2 : k ≤ 64) (hk : Hid (∃ m1 : Int, (if W < 1 then (1 : Int) else W) = m1 ∧ (if 64 < m1 then (64 : Int) else m1) = (k : Int))) :
    Calls Try.prog 27 #[.slice a n cap, .int .i64 W] w (PlPost w L n k) := by
  obtain ⟨m1, hmx1, hmx2⟩ := hk.out
  have HVa := Lib.hid hV
  have H := Lib.hid h
  have h0 : Hid (RD w w.heap.size (.slice none 0 0) (.slice none 0 0) [] (dnT L n k 0) (roT L n k 0)) := Lib.hid (RD.nil w _)
  clear h hV
  go_enter Try.func27, Try.ntmps27
  go_wp2_with fail
  clear hmx1 hmx2
  go_loopw [6, 7] (fun vr vd wr => ∃ (t : Nat) (rm dm : Value) (rows : List Value), rm = vr ∧ dm = vd ∧ Hid (∀ s, s < t → (dnT L n k s).length < n) ∧ Hid (RD wr w.heap.size vd vr rows (dnT L n k t) (roT L n k t)) ∧ Hid (Below w.heap.size w wr) ∧ (∃ ad cd, vd = .slice ad (dnT L n k t).length cd)) (fun _ vd _ => n - (match vd with | .slice _ m _ => m | _ => 0))
  case atStart => exact ⟨0, _, _, [], rfl, rfl, Lib.hid (fun s hs => absurd hs (Nat.not_lt_zero _)), h0, Lib.hid (Below.refl _ _), none, 0, rfl⟩
  case round =>
    clear h0
    obtain ⟨t, rm, dm, rows, rfl, rfl, HT, HR, HB, ad, cd, rfl⟩ := hrel
    have hdo := dnT_ok L n k t
    obtain ⟨dn, hdn⟩ : ∃ dn, dnT L n k t = dn := ⟨_, rfl⟩
    obtain ⟨RS, hrs⟩ : ∃ RS, roT L n k t = RS := ⟨_, rfl⟩
    have hrsl : RS.length = t := by rw [← hrs]; exact roT_len L n k t
    have htb : t ≤ n := dnT_t (k := k) HVa.out hk1 HT.out
    have HRSL : Hid (RS.length ≤ 100000) := Lib.hid (by omega)
    have HTB : Hid (t ≤ 100000) := Lib.hid (by omega)
    rw [hdn] at hdo HR ⊢
    rw [hrs] at HR
    have HDO := Lib.hid hdo
    have HDN := Lib.hid hdn
    have HRS := Lib.hid hrs
    obtain ⟨dl, hdl⟩ : ∃ dl, dn.length = dl := ⟨_, rfl⟩
    have hdln : dl ≤ n := by rw [← hdl]; exact dn_le hdo
    rw [hdl] at HR ⊢
    have HDL := Lib.hid hdl
    clear hdn hrs hrsl hdo hdl
    by_cases hltl : dl < n
    · have hlt : dn.length < n := by rw [HDL.out]; exact hltl
      have HLT := Lib.hid hlt
      have hltI : (dl : Int) < (n : Int) := by omega
      have hb0 : Hid (OI wr wr.heap.size (.slice none 0 0) (rdy L k dn 0)) := Lib.hid (oi_nil _ _)
      have hw0 : Hid (Below wr.heap.size wr wr) := Lib.hid (Below.refl _ _)
      clear hlt
      obtain ⟨WR, hWR⟩ : ∃ W, wr = W := ⟨_, rfl⟩
      rw [hWR] at HR HB hb0 hw0 ⊢
      clear hWR
      go_wp2_with fail
      go_loopw [8, 9] (fun l i wi => ∃ (j : Nat) (lm : Value), lm = l ∧ j ≤ n ∧ i = .int .i64 (j : Int) ∧ Hid (OI wi WR.heap.size l (rdy L k dn j)) ∧ Hid (Below WR.heap.size WR wi)) (fun _ i _ => n - (intOf i).toNat)
      case atStart => exact ⟨0, _, rfl, by omega, rfl, hb0, hw0⟩
      case round =>
        clear hb0 hw0
        obtain ⟨j, lm, rfl, hj, rfl, HO, HBi⟩ := hrel
        obtain ⟨al, cl', rfl, _⟩ := OI.form HO.out
        obtain ⟨ml, hm⟩ : ∃ m, (rdy L k dn j).length = m := ⟨_, rfl⟩
        have hmk : ml ≤ k := by rw [← hm]; exact rdy_len L k dn j
        rw [hm] at HO ⊢
        have HM := Lib.hid hm
        clear hm
        by_cases hgo : j < n ∧ ml < k
        · obtain ⟨hjn, hmlk⟩ := hgo
          have hjI : (j : Int) < (n : Int) := by omega
          have hmI : (ml : Int) < (k : Int) := by omega
          obtain ⟨b, o, ai, ci, rfl, hbl, hcl, hv⟩ := H.out.row j hjn
          obtain ⟨_, hr1, hr2⟩ := hv.len
          unfold maxLen at hr2
          have HV := Lib.hid hv
          obtain ⟨r, hr⟩ : ∃ m, (L.getD j []).length = m := ⟨_, rfl⟩
          rw [hr] at hcl HV hr1
          have HR1 := Lib.hid hr
          have hBa := trans3 HB.out HBi.out
          have hclr := (hBa.cell (p := ⟨b, o + j, none⟩) hbl).trans hcl
          have hblr : b < wr.heap.size := Nat.lt_of_lt_of_le hbl hBa.size
          have HVr := Lib.hid (HV.out.below hBa)
          have HDV := Lib.hid (view_of_own (HR.out.below HBi.out).1)
          have CH := Lib.hid (fun x b hb => rhas_of (.slice ad dl cd) dn x b wr (by have := view_of_own (HR.out.below HBi.out).1; exact this) (by rw [HDL.out]; omega) hb)
          obtain ⟨q0, hq0⟩ : ∃ q, decide ((j : Int) ∈ dn) = q := ⟨_, rfl⟩
          have C0 := Lib.hid (CH.out (j : Int) q0 hq0)
          have HQ0 := Lib.hid hq0
          clear hv hr hcl hq0 hBa
          go_wp2_with (first | (go_at_call 37; (with_reducible refine C0.out.mono ?_); rintro e w9 ⟨rfl, rfl⟩))
          go_loopw [10, 11] (fun rb i wi => ∃ (b : Bool) (p : Nat), wi = wr ∧ p ≤ r ∧ rb = .bool b ∧ i = .int .i64 (p : Int) ∧ Hid ((!decide ((j : Int) ∈ dn) && ((L.getD j []).take p).all (fun a => decide (a ∈ dn))) = b)) (fun _ i _ => r - (intOf i).toNat)
          case atStart => exact ⟨!q0, 0, rfl, by omega, rfl, rfl, Lib.hid (by simp [HQ0.out])⟩
          case round =>
            obtain ⟨b', p, rfl, hp, rfl, rfl, HPB⟩ := hrel
            by_cases hpl : p < r
            · obtain ⟨b2, o2, rfl, hbl3, hcx⟩ := HVr.out.at p hpl
              obtain ⟨x, hx⟩ : ∃ x, (L.getD j []).getD p 0 = x := ⟨_, rfl⟩
              rw [hx] at hcx
              obtain ⟨q, hq⟩ : ∃ q, decide (x ∈ dn) = q := ⟨_, rfl⟩
              have HNX := Lib.hid (rdB_take (q := q) (by rw [HR1.out]; exact hpl) b' (by rw [hx]; exact hq) HPB.out)
              have C1 := Lib.hid (CH.out x q hq)
              clear hx hq
              cases b' with
              | true =>
                go_wp2_with (first | (go_at_call 37; (with_reducible refine C1.out.mono ?_); rintro e w9 ⟨rfl, rfl⟩))
                go_roundw
                case rel => exact ⟨q, p + 1, (by first | rfl | trivial), by omega, rfl, by go_num, Lib.hid (by rw [HNX.out]; rfl)⟩
                case measure => simp [intOf]; omega
              | false =>
                go_wp2_with fail
                go_roundw
                case rel => exact ⟨false, p + 1, (by first | rfl | trivial), by omega, rfl, by go_num, Lib.hid (by rw [HNX.out]; rfl)⟩
                case measure => simp [intOf]; omega
            · obtain rfl : p = r := by omega
              have HPR : Hid (rdB L dn j = b') := Lib.hid (by
                have := HPB.out
                rw [List.take_of_length_le (by rw [HR1.out]; omega)] at this
                exact this)
              cases b' with
              | true =>
                have HN : Hid (rdy L k dn (j + 1) = rdy L k dn j ++ [(j : Int)]) := Lib.hid (by rw [rdy, if_pos ⟨by rw [HM.out]; exact hmlk, HPR.out⟩])
                have hn2 : Below wr.heap.size wr (wr.alloc (.cells #[.int .i64 (j : Int)] 3)) := (Below.refl _ _).alloc (Nat.le_refl _) _
                have HO2 := Lib.hid (HO.out.below hn2)
                have hsz := HBi.out.size
                have HB2 := Lib.hid (HBi.out.trans (hn2.mono hsz))
                have hz2 : WR.heap.size ≤ (wr.alloc (.cells #[.int .i64 (j : Int)] 3)).heap.size := by simp; omega
                have HLt : Hid (∀ q, (Value.slice al ml cl').ownBlock = some q → WR.heap.size ≤ q) := Lib.hid (fun q e => (own_ltI HO.out q e).1)
                clear hn2 HO HBi
                go_wp2_with ((at_builtin; refine wpList_app1 rfl _ _ rfl WR.heap.size _ (rdy L k dn j) rfl ⟨wr.heap.size, 0, none⟩ 1 rfl (j : Int) HO2.out (by go_simp) rfl (by rw [HM.out]; omega) hz2 ?_))
                intro v2 W3 hr2 hg2 ho2
                replace hr2 : OI W3 WR.heap.size v2 (rdy L k dn (j + 1)) := by rw [HN.out]; unfold OI; simpa using hr2
                have HO3 := Lib.hid hr2
                have HB3 := Lib.hid (HB2.out.grown hg2 hz2 HLt.out)
                clear hr2 hg2 ho2 HO2 HB2
                go_wp2_with fail
                go_roundw
                case rel => exact ⟨j + 1, _, rfl, by omega, by go_num, HO3, HB3⟩
                case measure => simp [intOf]; omega
              | false =>
                have HN : Hid (rdy L k dn (j + 1) = rdy L k dn j) := Lib.hid (by rw [rdy, if_neg (by rw [HPR.out]; simp)])
                go_wp2_with fail
                go_roundw
                case rel => exact ⟨j + 1, _, rfl, by omega, by go_num, by rw [HN.out]; exact HO, HBi⟩
                case measure => simp [intOf]; omega
        · have HUX : Hid (rdy L k dn j = rdy L k dn n) := Lib.hid (by
            by_cases e : j = n
            · rw [e]
            · exact (rdy_full L k dn j n hj (by rw [HM.out]; omega)).symm)
          rw [HUX.out] at HO
          obtain ⟨us, hus⟩ : ∃ us, rdy L k dn n = us := ⟨_, rfl⟩
          rw [hus] at HO
          have hlu : us.length = ml := by rw [← hus, ← HUX.out, HM.out]
          subst hlu
          have hlt := HLT.out
          by_cases hjn : j < n
          · have hjI : (j : Int) < (n : Int) := by omega
            have hmI : ¬ (us.length : Int) < (k : Int) := by omega
            clear hgo HM HUX
            have HUS : Hid (rdy L k dn n = us) := Lib.hid hus
            have hne : us ≠ [] := by
              intro e
              have := rdy_some (k := k) HVa.out hk1 (HDO.out) hlt
              rw [hus, e] at this
              simp at this
            have HNE := Lib.hid hne
            have hul : us.length ≤ 64 := by rw [← hus]; have := rdy_len L k dn n; omega
            have hulp : 1 ≤ us.length := by
              cases us with
              | nil => exact absurd rfl hne
              | cons _ _ => simp
            have HUL := Lib.hid hul
            have hRDi := HR.out.below HBi.out
            have HRDi := Lib.hid hRDi
            have HOl := Lib.hid HO.out
            have hzi : w.heap.size ≤ wr.heap.size := Nat.le_trans HB.out.size HBi.out.size
            have HZI := Lib.hid hzi
            have HW0 := Lib.hid HBi.out.size
            have HVl := Lib.hid (view_of_own HO.out)
            have HDL2 : Hid (dn.length + us.length ≤ 100000) := Lib.hid (by rw [HDL.out]; omega)
            clear hus hne hul HO hRDi hzi
            go_wp2_with ((at_builtin; refine wpList_appV rfl _ _ rfl w.heap.size (.slice ad dl cd) dn us rfl HRDi.out.1 HVl.out HNE.out HDL2.out HZI.out ?_))
            intro vd2 W3 hr3 hg3 ho3
            have hRD3 := HRDi.out.more hr3 hg3 ho3
            have hvdl : ∀ g, (Value.slice ad dl cd).ownBlock = some g → g < WR.heap.size := fun g e => (own_ltI HR.out.1 g e).2
            have hlb := own_ltI HOl.out
            have hOl3 : OI W3 w.heap.size (.slice al us.length cl') us := OI.base (B := WR.heap.size) (oi_block HOl.out (fun g e => hg3.block g (hlb g e).2 (fun e2 => by
              have h1 := hvdl g e2.symm
              have h2 := (hlb g e).1
              omega))) HB.out.size
            have hap : ∀ g, vd2.ownBlock = some g → (Value.slice al us.length cl').ownBlock ≠ some g := fun g e e2 => by
              rcases ho3 with h1 | h1
              · have h2 := hvdl g (by rw [← h1]; exact e)
                have h3 := (hlb g e2).1
                omega
              · rw [h1] at e
                have h3 := (hlb g e2).2
                cases e; omega
            have hBel3 : Below w.heap.size w W3 := ((HB.out.trans (HBi.out.mono HB.out.size)).grown hg3 HZI.out (fun q e => (own_ltI HRDi.out.1 q e).1))
            obtain ⟨ad2, cd2, rfl, _⟩ := OI.form hr3
            obtain ⟨d2, hd2⟩ : ∃ d, (dn ++ us).length = d := ⟨_, rfl⟩
            rw [hd2] at hRD3 hap ⊢
            have HD2 := Lib.hid hd2
            have hs3 : w.heap.size ≤ W3.heap.size := hBel3.size
            have hn3 : Below W3.heap.size W3 (W3.alloc (.cells #[.slice al us.length cl'] 24)) := (Below.refl _ _).alloc (Nat.le_refl _) _
            have HRD4 := Lib.hid (hRD3.below hn3)
            have HOl4 := Lib.hid (hOl3.below hn3)
            have HAP := Lib.hid hap
            have HB4 := Lib.hid (hBel3.trans (hn3.mono hs3))
            have hz4 : w.heap.size ≤ (W3.alloc (.cells #[.slice al us.length cl'] 24)).heap.size := by simp; omega
            have HRL : Hid ((roT L n k t).length = t) := Lib.hid (roT_len L n k t)
            have HTL : Hid (t ≤ 100000) := HTB
            clear hr3 hg3 ho3 hd2 hRD3 hvdl hlb hOl3 hap hBel3 hn3 HRDi
            go_wp2_with ((at_builtin; refine wpList_app41 rfl _ _ rfl w.heap.size _ rows RS rfl ⟨W3.heap.size, 0, none⟩ 1 rfl (.slice al us.length cl') us HRD4.out.2.1 (by go_simp) HOl4.out rfl HRSL.out hz4 ?_))
            intro vr2 W5 hr5 hg5 ho5
            have H5 := Lib.hid (HRD4.out.row hr5 hg5 (by rcases ho5 with h | h; exact .inl h; exact .inr (by rw [h]; simp)) HAP.out)
            have HB5 : Hid (Below w.heap.size w W5) := Lib.hid (HB4.out.grown hg5 hz4 (fun q e => (own_lt41 HRD4.out.2.1.1 q e).1))
            have HT5 : Hid (∀ s, s < t + 1 → (dnT L n k s).length < n) := Lib.hid fun s hs => by
              by_cases e : s = t
              · subst e; rw [HDN.out, HDL.out]; exact hltl
              · exact HT.out s (by omega)
            have HN5 : Hid (dnT L n k (t + 1) = dn ++ us) := Lib.hid (by rw [dnT, HDN.out, HUS.out])
            have HS5 : Hid (roT L n k (t + 1) = RS ++ [us]) := Lib.hid (by rw [roT, HDN.out, HRS.out, HUS.out])
            have HLL : Hid ((dn ++ us).length = dl + us.length) := Lib.hid (by rw [List.length_append, HDL.out])
            clear hr5 hg5 ho5 HRD4 HB4
            go_wp2_with fail
            go_roundw
            case rel => exact ⟨t + 1, _, _, _, rfl, rfl, HT5, by rw [HN5.out, HS5.out]; exact H5, HB5, ad2, cd2, by rw [HN5.out, HD2.out]⟩
            case measure =>
              have h1 := HLL.out
              rw [HD2.out] at h1
              first | omega | (simp; omega)
          · have hjI : ¬ (j : Int) < (n : Int) := by omega
            clear hgo HM HUX
            have HUS : Hid (rdy L k dn n = us) := Lib.hid hus
            have hne : us ≠ [] := by
              intro e
              have := rdy_some (k := k) HVa.out hk1 (HDO.out) hlt
              rw [hus, e] at this
              simp at this
            have HNE := Lib.hid hne
            have hul : us.length ≤ 64 := by rw [← hus]; have := rdy_len L k dn n; omega
            have hulp : 1 ≤ us.length := by
              cases us with
              | nil => exact absurd rfl hne
              | cons _ _ => simp
            have HUL := Lib.hid hul
            have hRDi := HR.out.below HBi.out
            have HRDi := Lib.hid hRDi
            have HOl := Lib.hid HO.out
            have hzi : w.heap.size ≤ wr.heap.size := Nat.le_trans HB.out.size HBi.out.size
            have HZI := Lib.hid hzi
            have HW0 := Lib.hid HBi.out.size
            have HVl := Lib.hid (view_of_own HO.out)
            have HDL2 : Hid (dn.length + us.length ≤ 100000) := Lib.hid (by rw [HDL.out]; omega)
            clear hus hne hul HO hRDi hzi
            go_wp2_with ((at_builtin; refine wpList_appV rfl _ _ rfl w.heap.size (.slice ad dl cd) dn us rfl HRDi.out.1 HVl.out HNE.out HDL2.out HZI.out ?_))
            intro vd2 W3 hr3 hg3 ho3
            have hRD3 := HRDi.out.more hr3 hg3 ho3
            have hvdl : ∀ g, (Value.slice ad dl cd).ownBlock = some g → g < WR.heap.size := fun g e => (own_ltI HR.out.1 g e).2
            have hlb := own_ltI HOl.out
            have hOl3 : OI W3 w.heap.size (.slice al us.length cl') us := OI.base (B := WR.heap.size) (oi_block HOl.out (fun g e => hg3.block g (hlb g e).2 (fun e2 => by
              have h1 := hvdl g e2.symm
              have h2 := (hlb g e).1
              omega))) HB.out.size
            have hap : ∀ g, vd2.ownBlock = some g → (Value.slice al us.length cl').ownBlock ≠ some g := fun g e e2 => by
              rcases ho3 with h1 | h1
              · have h2 := hvdl g (by rw [← h1]; exact e)
                have h3 := (hlb g e2).1
                omega
              · rw [h1] at e
                have h3 := (hlb g e2).2
                cases e; omega
            have hBel3 : Below w.heap.size w W3 := ((HB.out.trans (HBi.out.mono HB.out.size)).grown hg3 HZI.out (fun q e => (own_ltI HRDi.out.1 q e).1))
            obtain ⟨ad2, cd2, rfl, _⟩ := OI.form hr3
            obtain ⟨d2, hd2⟩ : ∃ d, (dn ++ us).length = d := ⟨_, rfl⟩
            rw [hd2] at hRD3 hap ⊢
            have HD2 := Lib.hid hd2
            have hs3 : w.heap.size ≤ W3.heap.size := hBel3.size
            have hn3 : Below W3.heap.size W3 (W3.alloc (.cells #[.slice al us.length cl'] 24)) := (Below.refl _ _).alloc (Nat.le_refl _) _
            have HRD4 := Lib.hid (hRD3.below hn3)
            have HOl4 := Lib.hid (hOl3.below hn3)
            have HAP := Lib.hid hap
            have HB4 := Lib.hid (hBel3.trans (hn3.mono hs3))
            have hz4 : w.heap.size ≤ (W3.alloc (.cells #[.slice al us.length cl'] 24)).heap.size := by simp; omega
            have HRL : Hid ((roT L n k t).length = t) := Lib.hid (roT_len L n k t)
            have HTL : Hid (t ≤ 100000) := HTB
            clear hr3 hg3 ho3 hd2 hRD3 hvdl hlb hOl3 hap hBel3 hn3 HRDi
            go_wp2_with ((at_builtin; refine wpList_app41 rfl _ _ rfl w.heap.size _ rows RS rfl ⟨W3.heap.size, 0, none⟩ 1 rfl (.slice al us.length cl') us HRD4.out.2.1 (by go_simp) HOl4.out rfl HRSL.out hz4 ?_))
            intro vr2 W5 hr5 hg5 ho5
            have H5 := Lib.hid (HRD4.out.row hr5 hg5 (by rcases ho5 with h | h; exact .inl h; exact .inr (by rw [h]; simp)) HAP.out)
            have HB5 : Hid (Below w.heap.size w W5) := Lib.hid (HB4.out.grown hg5 hz4 (fun q e => (own_lt41 HRD4.out.2.1.1 q e).1))
            have HT5 : Hid (∀ s, s < t + 1 → (dnT L n k s).length < n) := Lib.hid fun s hs => by
              by_cases e : s = t
              · subst e; rw [HDN.out, HDL.out]; exact hltl
              · exact HT.out s (by omega)
            have HN5 : Hid (dnT L n k (t + 1) = dn ++ us) := Lib.hid (by rw [dnT, HDN.out, HUS.out])
            have HS5 : Hid (roT L n k (t + 1) = RS ++ [us]) := Lib.hid (by rw [roT, HDN.out, HRS.out, HUS.out])
            have HLL : Hid ((dn ++ us).length = dl + us.length) := Lib.hid (by rw [List.length_append, HDL.out])
            clear hr5 hg5 ho5 HRD4 HB4
            go_wp2_with fail
            go_roundw
            case rel => exact ⟨t + 1, _, _, _, rfl, rfl, HT5, by rw [HN5.out, HS5.out]; exact H5, HB5, ad2, cd2, by rw [HN5.out, HD2.out]⟩
            case measure =>
              have h1 := HLL.out
              rw [HD2.out] at h1
              first | omega | (simp; omega)
    · have hltI : ¬ (dl : Int) < (n : Int) := by omega
      have hm := HR.out.2.1.mv
      obtain ⟨a2, c2, rfl, _⟩ := hm.form
      have HMM := Lib.hid hm
      clear hm HR
      go_wp2_with fail
      go_ret
      exact ⟨t, _, rfl, HT.out, by rw [HDN.out, HDL.out]; exact hltl, by rw [HRS.out]; exact HMM.out, HB.out⟩
end Go.Proofs.Ytpflimnngilhnaa.rh
