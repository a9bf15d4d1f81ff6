/- The program's plan (layer 41). -/
import Derived.Test.YtpflimnngilhnaaSpJ
namespace Go.Proofs.Ytpflimnngilhnaa.rh
open Go.ChangeShapes Go.WideShapes Go.ChangeAt Go.RowKit
set_option linter.unusedVariables false
set_option linter.unusedSimpArgs false
theorem plan_bad (a : Option Addr) (n cap : Nat) (W : Int) (L : List (List Int)) (c : Int) (w : World) (h : MV w (.slice a n cap) L) (hc : ck L = c) (h0 : c = 9 ∨ c = 3) :
    Calls Try.prog 23 #[.slice a n cap, .int .i64 W] w fun e w' => e = .returned (.tuple #[.slice none 0 0, .int .i64 c]) ∧ w = w' := by
  have C := scheck_bad a n cap L c w h hc h0
  clear h hc
  rcases h0 with rfl | rfl
  all_goals
    replace C := Lib.hid C
    go_enter Try.func23, Try.ntmps23
    go_wp2_with (first | (go_at_call 32; (with_reducible refine C.out.mono ?_); rintro e w1 ⟨rfl, rfl⟩))
    go_ret2
    exact ⟨rfl, rfl⟩
theorem greedy_bad (a : Option Addr) (n cap : Nat) (W : Int) (L : List (List Int)) (c : Int) (w : World) (h : MV w (.slice a n cap) L) (hc : ck L = c) (h0 : c = 9 ∨ c = 3) :
    Calls Try.prog 24 #[.slice a n cap, .int .i64 W] w fun e w' => e = .returned (.tuple #[.int .i64 0, .int .i64 c]) ∧ w = w' := by
  have C := Lib.hid (plan_bad a n cap W L c w h hc h0)
  clear h hc h0
  go_enter Try.func24, Try.ntmps24
  go_wp2_with (first | (go_at_call 23; (with_reducible refine C.out.mono ?_); rintro e w1 ⟨rfl, rfl⟩))
  go_ret2
  exact ⟨rfl, rfl⟩
theorem view_keep {w w' : World} {B : Nat} {v : Value} {xs : List Int} (h : OI w B v xs) (hk : ∀ g, v.ownBlock = some g → w'.heap[g]? = w.heap[g]?) : OI w' B v xs ∧ View w' v xs :=
  ⟨oi_block h hk, view_of_own (oi_block h hk)⟩
def fLn (L : List (List Int)) (b i : Nat) : Nat := if i < b then (L.getD i []).length else 0
def PnPost (w : World) (L : List (List Int)) (n k : Nat) (e : Ending) (w' : World) : Prop :=
  ∃ t v, e = .returned (.tuple #[v, .int .i64 0]) ∧ (∀ s, s < t → (dnT L n k s).length < n) ∧ ¬ (dnT L n k t).length < n ∧ MV w' v (roT L n k t) ∧ Below w.heap.size w w'
set_option maxRecDepth 20000 in
set_option maxHeartbeats 4000000 in
theorem plan_of (a : Option Addr) (n cap k : Nat) (W : Int) (L : List (List Int)) (w : World) (h : MV w (.slice a n cap) L) (hc : ck L = 0) (hn : n ≤ 150) (hrow : ∀ i, (L.getD i []).length ≤ 40) (hk1 : 1 ≤ k) (hk2 : k ≤ 64) (hk : Hid (∃ m1 : Int, (if W < 1 then (1 : Int) else W) = m1 ∧ (if 64 < m1 then (64 : Int) else m1) = (k : Int))) :
    Calls Try.prog 23 #[.slice a n cap, .int .i64 W] w (PnPost w L n k) := by
  have hV : Valid L := valid_of (by have := ck_cases L; rcases this with h | h | h; omega; omega; exact h.2.2)
  obtain ⟨m1, hmx1, hmx2⟩ := hk.out
  have HVa := Lib.hid hV
  have HRW := Lib.hid hrow
  have C := Lib.hid (scheck_of a n cap L w h hc)
  have H := Lib.hid h
  have hmk := mk_ints n (by omega)
  have hms := mk_slices n (by omega)
  have hmb := mk_bools n (by omega)
  clear h hV hrow hc
  go_enter Try.func23, Try.ntmps23
  go_wp2_with (first | (go_at_call 32; (with_reducible refine C.out.mono ?_); rintro e w1 ⟨rfl, HB1⟩))
  clear hmx1 hmx2
  have HBw := Lib.hid HB1
  obtain ⟨SL, hSL⟩ : ∃ S, w1.heap.size = S := ⟨_, rfl⟩
  have HSL := Lib.hid hSL
  obtain ⟨W0, hW0⟩ : ∃ W0, (w1.alloc (intsObj n)).alloc (.cells (madeCells #[.slice none 0 0] n) 24) = W0 := ⟨_, rfl⟩
  have HW0 := Lib.hid hW0
  have hs1 : (w1.alloc (intsObj n)).heap.size = SL + 1 := by rw [← hSL]; simp
  have hr0 : Hid (NR W0 SL n (fLn L 0)) := Lib.hid (by
    rw [← hW0, ← hSL]
    exact ((made_ints n w1).below ((Below.refl _ _).alloc (Nat.le_refl _) _)).congr fun i _ => by unfold fLn; rw [if_neg (by omega)])
  have hb0 : Hid (BF W0 (SL + 1) n (SL + 2) (fun _ => .slice none 0 0) (YB L 0 0)) := Lib.hid (by
    have := BF.start n (w1.alloc (intsObj n))
    rw [hs1, hW0] at this
    exact this.congr fun c _ => by rw [yb_zero]; rfl)
  have hB0 : Hid (Below w1.heap.size w1 W0) := Lib.hid (by rw [← hW0]; exact ((Below.refl _ _).alloc (Nat.le_refl _) _).alloc (by rw [hs1]; omega) _)
  clear HB1 hSL hs1 C
  clear hW0
  rw [HW0.out, HSL.out]
  go_loopw [37] (fun i wr => ∃ (b : Nat) (R : Nat → Value), b ≤ n ∧ i = .int .i64 (b : Int) ∧ Hid (NR wr SL n (fLn L b)) ∧ Hid (BF wr (SL + 1) n (SL + 2) R (YB L b 0)) ∧ Hid (Below w1.heap.size w1 wr)) (fun i _ => n - (intOf i).toNat)
  case atStart => exact ⟨0, _, by omega, rfl, hr0, hb0, hB0⟩
  case round =>
    clear hr0 hb0 hB0 hmk hms HW0
    obtain ⟨b, R, hb, rfl, HR, HF, HB⟩ := hrel
    by_cases hlt : b < n
    · have hBw := trans3 HBw.out HB.out
      obtain ⟨bb, o, ai, ci, rfl, hbl, hcl, hv⟩ := (H.out.below hBw).row b hlt
      obtain ⟨_, hm1, hm2⟩ := hv.len
      obtain ⟨b', o', ai', ci', eb, hbl', hcl', hv'⟩ := H.out.row b hlt
      have hcl2 := (hBw.cell (p := ⟨b', o' + b, none⟩) hbl').trans hcl'
      cases eb
      rw [hcl] at hcl2
      cases hcl2
      unfold maxLen at hm2
      have HV := Lib.hid hv'
      obtain ⟨m, hm⟩ : ∃ m, (L.getD b []).length = m := ⟨_, rfl⟩
      have hml : m ≤ 40 := by rw [← hm]; exact HRW.out b
      rw [hm] at hcl HV hm1
      have HM := Lib.hid hm
      have hcz := HR.out.at b _ hlt rfl
      have hfz := World.rowIs.frozen HR.out b
      have H5 := Lib.hid ((HR.out.set b m).congr (g := fLn L (b + 1)) fun i _ => by
        unfold fLn
        by_cases e : i = b
        · subst e; rw [if_pos rfl, if_pos (by omega), HM.out]
        · rw [if_neg e]
          by_cases e2 : i < b
          · rw [if_pos e2, if_pos (by omega)]
          · rw [if_neg e2, if_neg (by omega)])
      have HF5 := Lib.hid (HF.out.keep (w' := wr.setCell ⟨SL, b, none⟩ (.int .i64 (m : Int))) fun g h1 _ => set_at _ _ _ _ _ (by omega))
      have HB5 := Lib.hid (HB.out.setCell (p := ⟨SL, b, none⟩) (by rw [HSL.out]; exact Nat.le_refl _) (.int .i64 (m : Int)))
      clear hv hv' hm hcl' hBw HR HF HB
      go_wp2_with fail
      go_loopw [49] (fun i wi => ∃ (j : Nat) (R : Nat → Value), j ≤ m ∧ i = .int .i64 (j : Int) ∧ Hid (NR wi SL n (fLn L (b + 1))) ∧ Hid (BF wi (SL + 1) n (SL + 2) R (YB L b j)) ∧ Hid (Below w1.heap.size w1 wi)) (fun i _ => m - (intOf i).toNat)
      case atStart => exact ⟨0, R, by omega, rfl, H5, HF5, HB5⟩
      case round =>
        clear H5 HF5 HB5 hcl hcz hfz
        obtain ⟨j, R, hj, rfl, HR, HF, HB⟩ := hrel
        by_cases hjl : j < m
        · have hBw := trans3 HBw.out HB.out
          obtain ⟨b2, o2, rfl, hbl2, hcy⟩ := (HV.out.below hBw).at j hjl
          obtain ⟨y, hy⟩ : ∃ y, (L.getD b []).getD j 0 = y := ⟨_, rfl⟩
          rw [hy] at hcy
          have hyv := HVa.out b y (by rw [← hy]; exact getD_mem (by rw [HM.out]; exact hjl))
          obtain ⟨c, rfl⟩ : ∃ c : Nat, y = (c : Int) := ⟨y.toNat, by omega⟩
          have hcn : c < n := by omega
          have hcn2 : (c : Int) < (n : Int) := by omega
          have hcn3 : (0 : Int) ≤ (c : Int) := by omega
          have HY := Lib.hid hy
          have hcr := HF.out.1.cell hcn
          obtain ⟨ac, cc, hRc, _⟩ := OI.form (HF.out.2.2.1 c hcn)
          rw [hRc] at hcr
          obtain ⟨ys, hys⟩ : ∃ ys, YB L b j c = ys := ⟨_, rfl⟩
          have hyl : ys.length ≤ 6040 := by
            rw [← hys]
            have := yb_len HRW.out b j c
            have : (b + 1) * 40 ≤ 151 * 40 := Nat.mul_le_mul_right _ (by omega)
            omega
          rw [hys] at hcr hRc
          have hn2 : Below wr.heap.size wr (wr.alloc (.cells #[.int .i64 (b : Int)] 3)) := (Below.refl _ _).alloc (Nat.le_refl _) _
          have HF2 := Lib.hid (HF.out.below hn2)
          have HO2 : Hid (OI (wr.alloc (.cells #[.int .i64 (b : Int)] 3)) (SL + 2) (.slice ac ys.length cc) ys) := Lib.hid (by
            have := (HF.out.below hn2).2.2.1 c hcn
            rw [hRc, hys] at this
            exact this)
          have hsz := HB.out.size
          have hSLs : SL + 1 < wr.heap.size := HF.out.1.lt
          have HR2 := Lib.hid (HR.out.below hn2)
          have HB2 := Lib.hid (HB.out.trans (hn2.mono hsz))
          have hz2 : SL + 2 ≤ (wr.alloc (.cells #[.int .i64 (b : Int)] 3)).heap.size := by simp; omega
          have HYL := Lib.hid hyl
          have HRC := Lib.hid hRc
          have HYS := Lib.hid hys
          clear hn2 HR HF HB hBw hy hys hyl hRc hyv
          go_wp2_with ((at_builtin; refine wpList_app1 rfl _ _ rfl (SL + 2) _ ys rfl ⟨wr.heap.size, 0, none⟩ 1 rfl (b : Int) HO2.out (by go_simp) rfl (by have := HYL.out; omega) hz2 ?_))
          intro v2 W3 hr2 hg2 ho2
          replace hr2 : OI W3 (SL + 2) v2 (ys ++ [(b : Int)]) := by unfold OI; simpa using hr2
          obtain ⟨a2, c2, rfl, _⟩ := OI.form hr2
          have hBF := HF2.out.push (a := c) hcn (by rw [HYS.out]; exact hr2) (by rw [HRC.out]; exact hg2) (by rw [HRC.out]; rcases ho2 with h | h; exact .inl h; exact .inr (by rw [h]; simp))
          have hBF3 : BF (W3.setCell ⟨SL + 1, c, none⟩ (.slice a2 (ys ++ [(b : Int)]).length c2)) (SL + 1) n (SL + 2) _ (YB L b (j + 1)) := hBF.congr fun q _ => by
            rw [HYS.out, ← yb_step (by rw [HM.out]; exact hjl) HY.out, HYS.out]
          have hSB : W3.heap[SL + 1]? = (wr.alloc (.cells #[.int .i64 (b : Int)] 3)).heap[SL + 1]? := hg2.block (SL + 1) HF2.out.1.lt (fun e => by have := (own_ltI HO2.out _ e.symm).1; omega)
          have hSLb : W3.heap[SL]? = (wr.alloc (.cells #[.int .i64 (b : Int)] 3)).heap[SL]? := hg2.block SL HR2.out.lt (fun e => by have := (own_ltI HO2.out _ e.symm).1; omega)
          have hrw := HF2.out.1.of_block hSB
          have hcw := hrw.cell hcn
          have hfw := hrw.frozen c
          have HR5 : Hid (NR (W3.setCell ⟨SL + 1, c, none⟩ (.slice a2 (ys ++ [(b : Int)]).length c2)) SL n (fLn L (b + 1))) := Lib.hid ((HR2.out.of_block hSLb).of_block (set_at _ _ _ _ _ (by omega)))
          have hB3 : Below w1.heap.size w1 W3 := HB2.out.grown hg2 (by rw [HSL.out]; omega) (fun q e => by have := (own_ltI HO2.out q e).1; have := HSL.out; omega)
          have HB5 := Lib.hid (hB3.setCell (p := ⟨SL + 1, c, none⟩) (by rw [HSL.out]; exact Nat.le_succ _) (.slice a2 (ys ++ [(b : Int)]).length c2))
          have HF5 := Lib.hid hBF3
          clear hr2 hg2 ho2 hBF hBF3 hSB hSLb hrw hB3 HF2 HO2 HR2 HB2
          generalize (ys ++ [(b : Int)]).length = d at *
          go_wp2_with fail
          go_roundw
          case rel => exact ⟨j + 1, _, by omega, by go_num, HR5, HF5, HB5⟩
          case measure => simp [intOf]; omega
        · obtain rfl : j = m := by omega
          have HF5 := Lib.hid (HF.out.congr (Z := YB L (b + 1) 0) fun c _ => yb_next HM.out)
          clear HF
          go_wp2_with fail
          go_roundw
          case rel => exact ⟨b + 1, R, by omega, by go_num, HR, HF5, HB⟩
          case measure => simp [intOf]; omega
    · obtain rfl : b = n := by omega
      have hF2 := HF.out.congr (Z := fun c => behN L c b) fun c _ => yb_zero L b c
      have hBw := trans3 HBw.out HB.out
      have hR2 : NR wr SL b (lf L (dnT L b k 0)) := HR.out.congr fun i hi => by
        show fLn L b i = lf L [] i
        rw [lf_nil]; unfold fLn; rw [if_pos hi]
      obtain ⟨SD, hSD⟩ : ∃ S, wr.heap.size = S := ⟨_, rfl⟩
      have hSDl : SL + 1 < SD := by rw [← hSD]; exact HF.out.1.lt
      obtain ⟨W2, hW2⟩ : ∃ W2, wr.alloc (boolsObj b) = W2 := ⟨_, rfl⟩
      have hn2 : Below wr.heap.size wr W2 := by rw [← hW2]; exact (Below.refl _ _).alloc (Nat.le_refl _) _
      have hsz2 : W2.heap.size = SD + 1 := by rw [← hW2, ← hSD]; simp
      have HW2 := Lib.hid hW2
      have HSD := Lib.hid hSD
      have HF2 := Lib.hid hF2
      have HR2 := Lib.hid (hR2.below hn2)
      have HD2 : Hid (BR W2 SD b (ind (dnT L b k 0))) := Lib.hid (by
        rw [← hW2, ← hSD]
        exact (made_bools b wr).congr fun i _ => by simp [ind, dnT])
      have HBS := Lib.hid (hBw.trans (hn2.mono hBw.size))
      have HO0 : Hid (OM W2 (SD + 1) (.slice none 0 0) [] (roT L b k 0)) := Lib.hid (OM.nil W2 _)
      have HX0 : Hid (∀ g, g < SD → g ≠ SL → W2.heap[g]? = wr.heap[g]?) := Lib.hid fun g h1 _ => hn2.block g (by rw [hSD]; exact h1)
      have HZ0 : Hid (SD + 1 ≤ W2.heap.size) := Lib.hid (by rw [hsz2]; exact Nat.le_refl _)
      have hSL0 : w.heap.size ≤ SL := by rw [← HSL.out]; exact HBw.out.size
      have hSD0 : w.heap.size ≤ SD := by omega
      clear HR HF HB hF2 hR2 hBw hn2 hsz2 hSD hW2
      go_wp2_with fail
      rw [HW2.out, HSD.out]
      have HWR : Hid (∀ g, SL + 1 ≤ g → g < wr.heap.size → g < SD) := Lib.hid fun g _ h => by rw [HSD.out] at h; exact h
      obtain ⟨WF, hWF⟩ : ∃ W, wr = W := ⟨_, rfl⟩
      rw [hWF] at HF2 HX0 HWR
      clear hWF HW2 HSD hmb
      go_loopw [13, 15] (fun vr mv wi => ∃ (t d : Nat) (rm : Value) (rows : List Value), rm = vr ∧ mv = .int .i64 (d : Int) ∧ d ≤ b ∧ Hid ((dnT L b k t).length = d) ∧ Hid (∀ s, s < t → (dnT L b k s).length < b) ∧ Hid (OM wi (SD + 1) vr rows (roT L b k t)) ∧ Hid (NR wi SL b (lf L (dnT L b k t))) ∧ Hid (BR wi SD b (ind (dnT L b k t))) ∧ Hid (∀ g, g < SD → g ≠ SL → wi.heap[g]? = WF.heap[g]?) ∧ Hid (Below w.heap.size w wi) ∧ Hid (SD + 1 ≤ wi.heap.size)) (fun _ mv _ => b - (intOf mv).toNat)
      case atStart => exact ⟨0, 0, _, [], rfl, rfl, Nat.zero_le _, Lib.hid rfl, Lib.hid (fun s hs => absurd hs (Nat.not_lt_zero _)), HO0, HR2, HD2, HX0, HBS, HZ0⟩
      case round =>
        clear HO0 HR2 HD2 HX0 HBS HZ0
        obtain ⟨t, d, rm, rows, rfl, rfl, hdb, HDL, HT, HO, HR, HD, HX, HB, HZ⟩ := hrel
        have hdo := dnT_ok L b k t
        obtain ⟨dn, hdn⟩ : ∃ dn, dnT L b k t = dn := ⟨_, rfl⟩
        obtain ⟨RS, hrs⟩ : ∃ RS, roT L b k t = RS := ⟨_, rfl⟩
        have hrsl : RS.length = t := by rw [← hrs]; exact roT_len L b k t
        have htb : t ≤ b := dnT_t (k := k) HVa.out hk1 HT.out
        have HRSL : Hid (RS.length ≤ 100000) := Lib.hid (by omega)
        rw [hdn] at hdo HR HD HDL
        rw [hrs] at HO
        have HDO := Lib.hid hdo
        have HDN := Lib.hid hdn
        have HRS := Lib.hid hrs
        clear hdn hrs hrsl hdo
        by_cases hdl : d < b
        · have hltI : (d : Int) < (b : Int) := by omega
          have CR := Lib.hid (ready_of SL SD b k (lf L dn) (ind dn) L dn wr HR.out HD.out hk2 (by omega) (fun i _ => lf_rd L dn i))
          unfold RdPost at CR
          obtain ⟨us, hus⟩ : ∃ us, rdy L k dn b = us := ⟨_, rfl⟩
          have hus1 : 1 ≤ us.length := by rw [← hus]; exact rdy_some HVa.out hk1 HDO.out (by rw [HDL.out]; exact hdl)
          have hus2 : us.length ≤ 64 := by rw [← hus]; have := rdy_len L k dn b; omega
          have hnext : DnOk b (dn ++ us) := by rw [← hus]; exact dn_next HDO.out
          have hdu : d + us.length ≤ b := by have := dn_le hnext; rw [List.length_append, HDL.out] at this; exact this
          rw [hus] at CR
          have HUS := Lib.hid hus
          have HNX := Lib.hid hnext
          clear hus hnext
          go_wp2_with (first | (go_at_call 36; (with_reducible refine CR.out.mono ?_); (rintro e w5 ⟨vu, rfl, hOu, hB5⟩); (obtain ⟨au, cu, rfl, _⟩ := OI.form hOu)))
          have hbu := own_ltI hOu
          obtain ⟨u, hu⟩ : ∃ u, us.length = u := ⟨_, rfl⟩
          have HVU := Lib.hid (view_of_own hOu)
          have HOU := Lib.hid hOu
          have hsz5 := hB5.size
          have HO5 := Lib.hid (HO.out.below hB5)
          have HR5 : Hid (NR w5 SL b (lf L (dn ++ us.take 0))) := Lib.hid (by rw [List.take_zero, List.append_nil]; exact HR.out.below hB5)
          have HD5 : Hid (BR w5 SD b (ind (dn ++ us.take 0))) := Lib.hid (by rw [List.take_zero, List.append_nil]; exact HD.out.below hB5)
          have HX5 : Hid (∀ g, g < SD → g ≠ SL → w5.heap[g]? = WF.heap[g]?) := Lib.hid fun g h1 h2 => (hB5.block g (by have := HZ.out; omega)).trans (HX.out g h1 h2)
          have HB5 := Lib.hid (HB.out.trans (hB5.mono HB.out.size))
          have HZ5 : Hid (SD + 1 ≤ w5.heap.size) := Lib.hid (Nat.le_trans HZ.out hsz5)
          have HAU : Hid (∀ g, (Value.slice au us.length cu).ownBlock = some g → SD + 1 ≤ g ∧ g < w5.heap.size) := Lib.hid fun g e => by have := hbu g e; have := HZ.out; omega
          have hzR : SD + 1 ≤ wr.heap.size := HZ.out
          rw [hu] at hus1 hus2 hdu HVU HOU HAU ⊢
          have HU := Lib.hid hu
          clear hu hOu hB5 hbu HO HR HD HX HB HZ CR
          go_loopw [78] (fun i wi => ∃ (p : Nat), p ≤ u ∧ i = .int .i64 (p : Int) ∧ Hid (NR wi SL b (lf L (dn ++ us.take p))) ∧ Hid (BR wi SD b (ind (dn ++ us.take p))) ∧ Hid (K3 SL SD w5 wi) ∧ Hid (Below w.heap.size w wi)) (fun i _ => u - (intOf i).toNat)
          case atStart => exact ⟨0, by omega, rfl, HR5, HD5, Lib.hid (K3.refl _ _ _), HB5⟩
          case round =>
            clear HR5 HD5 HB5
            obtain ⟨p, hp, rfl, HR, HD, HK, HB⟩ := hrel
            by_cases hpl : p < u
            · have hVw : View wr (.slice au u cu) us := by
                obtain ⟨hl, ho⟩ := view_keep HOU.out (fun g e => HK.out.2 g (HAU.out g e).2 (by have := (HAU.out g e).1; omega) (by have := (HAU.out g e).1; omega))
                exact ho
              obtain ⟨b2, o2, rfl, hbl2, hcx⟩ := hVw.at p hpl
              obtain ⟨x, hx⟩ : ∃ x, us.getD p 0 = x := ⟨_, rfl⟩
              rw [hx] at hcx
              have hxm : x ∈ us := by rw [← hx]; exact getD_mem (by rw [HU.out]; exact hpl)
              have hxb := HNX.out.2 x (List.mem_append_right _ hxm)
              obtain ⟨c, rfl⟩ : ∃ c : Nat, x = (c : Int) := ⟨x.toNat, by omega⟩
              have hcb : c < b := by omega
              have hcb2 : (c : Int) < (b : Int) := by omega
              have hcb3 : (0 : Int) ≤ (c : Int) := by omega
              have htk : us.take (p + 1) = us.take p ++ [(c : Int)] := by
                rw [List.take_add_one, List.getElem?_eq_getElem (by rw [HU.out]; exact hpl), ← hx, List.getD_eq_getElem?_getD, List.getElem?_eq_getElem (by rw [HU.out]; exact hpl)]; rfl
              have hnd : ¬ ((c : Int) ∈ dn ++ us.take p) := by
                have h1 : (dn ++ us.take (p + 1)).Nodup := (HNX.out.1).sublist ((List.Sublist.refl dn).append (List.take_sublist _ _))
                rw [htk, ← List.append_assoc, List.nodup_append] at h1
                exact fun h2 => h1.2.2 _ h2 _ (by simp) rfl
              obtain ⟨D, hD⟩ : ∃ D, dn ++ us.take p = D := ⟨_, rfl⟩
              rw [hD] at hnd HR HD
              have HD1 : Hid (dn ++ us.take (p + 1) = D ++ [(c : Int)]) := Lib.hid (by rw [htk, ← List.append_assoc, hD])
              have HND := Lib.hid hnd
              have hcd := HD.out.at c _ hcb rfl
              have hfd := World.rowIs.frozen HD.out c
              have HD6 : Hid (BR (wr.setCell ⟨SD, c, none⟩ (.bool true)) SD b (ind (D ++ [(c : Int)]))) := Lib.hid ((HD.out.set c true).congr fun i _ => by
                unfold ind
                by_cases e : i = c
                · subst e; simp
                · rw [if_neg e]
                  have : ¬ ((i : Int) = (c : Int)) := by omega
                  simp [this])
              have HFw := HF2.out.keep (w' := wr.setCell ⟨SD, c, none⟩ (.bool true)) fun g h1 h2 => by
                have h3 := HWR.out g h1 h2
                rw [set_at _ _ _ _ _ (by omega)]
                exact (HK.out.2 g (by have := HZ5.out; omega) (by omega) (by omega)).trans (HX5.out g h3 (by omega))
              have hcr := HFw.1.cell hcb
              obtain ⟨ac, cc, hRc, _⟩ := OI.form (HFw.2.2.1 c hcb)
              rw [hRc] at hcr
              have hOc := HFw.2.2.1 c hcb
              rw [hRc] at hOc
              have hVc := view_of_own hOc
              obtain ⟨ys, hys⟩ : ∃ ys, behN L c b = ys := ⟨_, rfl⟩
              have hyl : ys.length ≤ 6000 := by
                rw [← hys]
                have := beh_len HRW.out c b
                have : b * 40 ≤ 150 * 40 := Nat.mul_le_mul_right _ hn
                omega
              have hyc : ∀ q, q < b → ys.count (q : Int) = (L.getD q []).count (c : Int) := fun q hq => by rw [← hys, beh_count, if_pos hq]
              have hym : ∀ x ∈ ys, ∃ q : Nat, q < b ∧ x = (q : Int) := fun x hx => beh_mem (by rw [hys]; exact hx)
              dsimp only at hcr hVc hOc hRc
              rw [hys] at hcr hVc hOc
              obtain ⟨yl, hyll⟩ : ∃ l, ys.length = l := ⟨_, rfl⟩
              rw [hyll] at hcr hVc hOc hyl
              have HYL := Lib.hid hyll
              have HVC := Lib.hid hVc
              have HOC := Lib.hid hOc
              have HYC := Lib.hid hyc
              have HYM := Lib.hid hym
              have HAC : Hid (∀ g, (Value.slice ac yl cc).ownBlock = some g → SL + 2 ≤ g ∧ g < SD ∧ g < wr.heap.size) := Lib.hid fun g e => by
                have h1 := own_ltI (HF2.out.2.2.1 c hcb) g (by rw [hRc, hys, hyll]; exact e)
                have h2 := HWR.out g (by omega) h1.2
                have h3 := HK.out.1
                have h4 := HZ5.out
                omega
              have HR6 : Hid (NR (wr.setCell ⟨SD, c, none⟩ (.bool true)) SL b (fun q => lf L D q - (ys.take 0).count (q : Int))) := Lib.hid ((HR.out.of_block (set_at _ _ _ _ _ (by omega))).congr fun q _ => by simp)
              have HB6 := Lib.hid (HB.out.setCell (p := ⟨SD, c, none⟩) hSD0 (.bool true))
              have HK6 := Lib.hid (HK.out.trans (K3.setD SL SD c (.bool true) wr))
              clear hx hxm hxb htk hnd hD HFw hRc hOc hVc hys hyc hym hyll HR HD HK HB hVw
              go_wp2_with fail
              obtain ⟨WC, hWC⟩ : ∃ W, wr.setCell ⟨SD, c, none⟩ (.bool true) = W := ⟨_, rfl⟩
              have HAC2 : Hid (∀ g, (Value.slice ac yl cc).ownBlock = some g → g ≠ SL ∧ g ≠ SD ∧ g < WC.heap.size) := Lib.hid fun g e => by
                have := HAC.out g e
                rw [← hWC, set_sz]; omega
              rw [hWC] at HR6 HD6 HB6 HK6 HVC HOC ⊢
              clear hWC HAC
              go_loopw [90] (fun i wi => ∃ (q : Nat), q ≤ yl ∧ i = .int .i64 (q : Int) ∧ Hid (NR wi SL b (fun z => lf L D z - (ys.take q).count (z : Int))) ∧ Hid (K3 SL SL WC wi) ∧ Hid (Below w.heap.size w wi)) (fun i _ => yl - (intOf i).toNat)
              case atStart => exact ⟨0, by omega, rfl, HR6, Lib.hid (K3.refl _ _ _), HB6⟩
              case round =>
                clear HR6 HB6 hcr hcd hfd
                obtain ⟨q, hq, rfl, HR, HKK, HB⟩ := hrel
                by_cases hql : q < yl
                · have hVw : View wr (.slice ac yl cc) ys := (view_keep HOC.out (fun g e => HKK.out.2 g (HAC2.out g e).2.2 (HAC2.out g e).1 (HAC2.out g e).1)).2
                  obtain ⟨b3, o3, rfl, hbl3, hcz⟩ := hVw.at q hql
                  obtain ⟨z, hz⟩ : ∃ z, ys.getD q 0 = z := ⟨_, rfl⟩
                  rw [hz] at hcz
                  obtain ⟨zz, hzz, rfl⟩ := HYM.out z (by rw [← hz]; exact getD_mem (by rw [HYL.out]; exact hql))
                  have hzI : (zz : Int) < (b : Int) := by omega
                  have hzI0 : (0 : Int) ≤ (zz : Int) := by omega
                  have hct := count_take_lt (by rw [HYL.out]; exact hql) hz
                  have hlf := lf_add (L := L) HND.out zz
                  rw [HYC.out zz hzz] at hct
                  obtain ⟨v, hv⟩ : ∃ v, lf L D zz - (ys.take q).count (zz : Int) = v + 1 := ⟨lf L D zz - (ys.take q).count (zz : Int) - 1, by omega⟩
                  have hvl : v ≤ 40 := by
                    have h1 : lf L D zz ≤ (L.getD zz []).length := List.countP_le_length
                    have h2 := HRW.out zz
                    omega
                  have hcl := HR.out.at zz (v + 1) hzz hv
                  have hfl := World.rowIs.frozen HR.out zz
                  have hsub : ((v + 1 : Nat) : Int) - 1 = (v : Int) := by omega
                  have HR7 := Lib.hid ((HR.out.set zz v).congr (g := fun z => lf L D z - (ys.take (q + 1)).count (z : Int)) fun i _ => by
                    by_cases e : i = zz
                    · subst e; rw [if_pos rfl, hct.1]; omega
                    · rw [if_neg e, count_take_ne (by rw [HYL.out]; exact hql) hz (by omega)])
                  have HB7 := Lib.hid (HB.out.setCell (p := ⟨SL, zz, none⟩) hSL0 (.int .i64 (v : Int)))
                  have HK7 := Lib.hid (HKK.out.trans (K3.setL SL SL zz (.int .i64 (v : Int)) wr))
                  clear hz hct hlf hv HR HB HKK hVw
                  go_wp2_with fail
                  go_roundw
                  case rel => exact ⟨q + 1, by omega, by go_num, HR7, HK7, HB7⟩
                  case measure => simp [intOf]; omega
                · obtain rfl : q = yl := by omega
                  have HR7 : Hid (NR wr SL b (lf L (D ++ [(c : Int)]))) := Lib.hid (HR.out.congr fun z hz => by
                    have h1 := lf_add (L := L) HND.out z
                    rw [List.take_of_length_le (by rw [HYL.out]; omega), HYC.out z hz]
                    omega)
                  have HD7 : Hid (BR wr SD b (ind (D ++ [(c : Int)]))) := Lib.hid (HD6.out.of_block (HKK.out.2 SD HD6.out.lt (by omega) (by omega)))
                  have HK7 : Hid (K3 SL SD w5 wr) := Lib.hid (HK6.out.trans ⟨HKK.out.1, fun g h1 h2 _ => HKK.out.2 g h1 h2 h2⟩)
                  clear HR HKK
                  go_wp2_with fail
                  go_roundw
                  case rel => exact ⟨p + 1, by omega, by go_num, by rw [HD1.out]; exact HR7, by rw [HD1.out]; exact HD7, HK7, HB⟩
                  case measure => simp [intOf]; omega
            · obtain rfl : p = u := by omega
              rw [List.take_of_length_le (by rw [HU.out]; omega)] at HR HD
              have hn3 : Below wr.heap.size wr (wr.alloc (.cells #[.slice au p cu] 24)) := (Below.refl _ _).alloc (Nat.le_refl _) _
              have hszK := HK.out.1
              have hz5 := HZ5.out
              have HO6 := Lib.hid ((om_blocks HO5.out (fun g e => HK.out.2 g (own_lt41 HO5.out.1 g e).2 (by have := (own_lt41 HO5.out.1 g e).1; omega) (by have := (own_lt41 HO5.out.1 g e).1; omega)) (fun i u' hu' g e => HK.out.2 g (om_lt HO5.out hu' g e).2 (by have := (om_lt HO5.out hu' g e).1; omega) (by have := (om_lt HO5.out hu' g e).1; omega))).below hn3)
              have HOU6 : Hid (OI (wr.alloc (.cells #[.slice au p cu] 24)) (SD + 1) (.slice au p cu) us) := Lib.hid ((OI.base (view_keep HOU.out (fun g e => HK.out.2 g (HAU.out g e).2 (by have := (HAU.out g e).1; omega) (by have := (HAU.out g e).1; omega))).1 (by omega)).below hn3)
              have HR6 := Lib.hid (HR.out.below hn3)
              have HD6 := Lib.hid (HD.out.below hn3)
              have HX6 : Hid (∀ g, g < SD → g ≠ SL → (wr.alloc (.cells #[.slice au p cu] 24)).heap[g]? = WF.heap[g]?) := Lib.hid fun g h1 h2 => (hn3.block g (by omega)).trans ((HK.out.2 g (by omega) h2 (by omega)).trans (HX5.out g h1 h2))
              have HB6 := Lib.hid (HB.out.trans (hn3.mono HB.out.size))
              have hz6 : SD + 1 ≤ (wr.alloc (.cells #[.slice au p cu] 24)).heap.size := by simp; omega
              clear HR HD HB HK hn3
              go_wp2_with ((at_builtin; refine wpList_app41 rfl _ _ rfl (SD + 1) _ rows RS rfl ⟨wr.heap.size, 0, none⟩ 1 rfl (.slice au p cu) us HO6.out (by go_simp) HOU6.out rfl HRSL.out hz6 ?_))
              intro vr2 W7 hr7 hg7 ho7
              have hlo := fun g e => (own_lt41 HO6.out.1 g e).1
              have HO7 := Lib.hid hr7
              have HR7 := Lib.hid (World.rowIs.of_block HR6.out (hg7.block SL HR6.out.lt (fun e => by have := hlo SL e.symm; omega)))
              have HD7 := Lib.hid (World.rowIs.of_block HD6.out (hg7.block SD HD6.out.lt (fun e => by have := hlo SD e.symm; omega)))
              have HX7 : Hid (∀ g, g < SD → g ≠ SL → W7.heap[g]? = WF.heap[g]?) := Lib.hid fun g h1 h2 => (hg7.block g (by omega) (fun e => by have := hlo g e.symm; omega)).trans (HX6.out g h1 h2)
              have HB7 : Hid (Below w.heap.size w W7) := Lib.hid (HB6.out.grown hg7 (by omega) (fun q e => by have := hlo q e; omega))
              have HZ7 : Hid (SD + 1 ≤ W7.heap.size) := Lib.hid (Nat.le_trans hz6 hg7.size)
              have HN7 : Hid (dnT L b k (t + 1) = dn ++ us) := Lib.hid (by rw [dnT, HDN.out, HUS.out])
              have HS7 : Hid (roT L b k (t + 1) = RS ++ [us]) := Lib.hid (by rw [roT, HDN.out, HRS.out, HUS.out])
              have HL7 : Hid ((dnT L b k (t + 1)).length = d + p) := Lib.hid (by rw [HN7.out, List.length_append, HDL.out, HU.out])
              have HT7 : Hid (∀ s, s < t + 1 → (dnT L b k s).length < b) := Lib.hid fun s hs => by
                by_cases e : s = t
                · subst e; rw [HDN.out, HDL.out]; exact hdl
                · exact HT.out s (by omega)
              clear hr7 hg7 ho7 hlo HO6 HR6 HD6 HX6 HB6
              go_wp2_with fail
              go_roundw
              case rel => exact ⟨t + 1, d + p, _, _, rfl, by go_num, hdu, HL7, HT7, by rw [HS7.out]; exact HO7, by rw [HN7.out]; exact HR7, by rw [HN7.out]; exact HD7, HX7, HB7, HZ7⟩
              case measure => simp [intOf]; omega
        · have hltI : ¬ (d : Int) < (b : Int) := by omega
          have hm := HO.out.mv
          obtain ⟨a2, c2, rfl, _⟩ := hm.form
          have HMM := Lib.hid hm
          clear hm HO HR HD
          go_wp2_with fail
          go_ret2
          exact ⟨t, _, rfl, HT.out, by rw [HDN.out, HDL.out]; exact hdl, by rw [HRS.out]; exact HMM.out, HB.out⟩
end Go.Proofs.Ytpflimnngilhnaa.rh
