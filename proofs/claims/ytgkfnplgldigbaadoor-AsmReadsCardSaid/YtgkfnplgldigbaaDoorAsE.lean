/- The program that is written: the program's Read (layer 6). -/
import Derived.Test.YtgkfnplgldigbaaDoorAsT
import Derived.Test.YtgkfnplgldigbaaDoorWdK
import Derived.Test.YtgkfnplgldigbaaDoorPrD
namespace Go.Proofs.YtgkfnplgldigbaaDoor.asm
open Go.ChangeShapes Go.WideShapes Go.ChangeAt Go.RowKit
open Go.Proofs.YtgkfnplgldigbaaDoor.st Go.Proofs.YtgkfnplgldigbaaDoor.wd
open Go.Proofs.YtgkfnplgldigbaaDoor.pr (enI recI infoI infoC PM OP own_ltP NB)
set_option linter.unusedVariables false
set_option linter.unusedSimpArgs false
def clo (n : Nat) : Value := .func (.func 35) #[] #[.pointer (some ⟨n + 2, 0, none⟩), .pointer (some ⟨n + 1, 0, none⟩)]
/-- rows of strings lie in no block of other cells. -/
theorem SV.setBool {w : World} {x : Value} {L : List (List UInt8)} {g : Nat} {b : Bool} {e : TypeId} {v : Value} (hx : SV w x L) (hg : w.heap[g]? = some (.cells #[.bool b] e (0, 0))) : SV (w.setCell ⟨g, 0, none⟩ v) x L := by
  obtain ⟨a, cap, e, h1, h2, h3, h4⟩ := hx
  refine ⟨a, cap, e, h1, h2, h3, fun i y hy => ?_⟩
  obtain ⟨k, o, e', hb, hc⟩ := h4 i y hy
  refine ⟨k, o, e', by rw [st.set_size]; exact hb, fun j u hu => ?_⟩
  have hcc := hc j u hu
  have hu2 : u = .string ⟨y.toArray⟩ := by
    match j, hu with
    | 0, hu => simp [enS] at hu; exact hu.symm
  subst hu2
  have hk : k ≠ g := by
    rintro rfl
    rw [cel hg] at hcc
    match (o + (i * 1 + j)), hcc with
    | 0, hcc => simp at hcc
    | k + 1, hcc => simp at hcc
  rw [← hcc]
  simp only [World.cell?, st.set_oth w g 0 k v hk]
theorem rd1_mem (m : Int) (fs : List (List I4)) (l : List UInt8) : rd1 (false, m, fs) l = ((true, (memP (fldV l)).getD m, fs), if (memP (fldV l)).isSome then 0 else 4) := by
  unfold rd1
  rw [if_pos rfl]
  cases h : memP (fldV l) <;> simp
theorem lin_len (l : List UInt8) : (linV l).length ≤ l.length + 1 := by
  rw [linV_eq]
  have := spl_len 10 l
  split
  · rw [List.length_take]; omega
  · exact this
theorem lin_part (l : List UInt8) : ∀ x ∈ linV l, x.length ≤ l.length := by
  intro x hx
  rw [linV_eq] at hx
  split at hx
  · exact spl_part 10 l x (List.mem_of_mem_take hx)
  · exact spl_part 10 l x hx
theorem rd1_len (s : RdS) (l : List UInt8) (k : Nat) (h1 : s.2.2.length ≤ k) (h2 : (s.2.2.getLastD []).length ≤ k) : (rd1 s l).1.2.2.length ≤ k + 1 ∧ ((rd1 s l).1.2.2.getLastD []).length ≤ k + 1 := by
  unfold rd1
  split
  · split <;> exact ⟨by dsimp only; omega, by dsimp only; omega⟩
  · split
    · exact ⟨by simp; omega, by simp⟩
    · split
      · exact ⟨by dsimp only; omega, by dsimp only; omega⟩
      · split
        · exact ⟨by dsimp only; omega, by dsimp only; omega⟩
        · rename_i hne
          dsimp only
          unfold addI
          constructor
          · rw [List.length_append, List.length_dropLast, List.length_singleton]; omega
          · rw [List.getLastD_concat, List.length_append, List.length_singleton]; omega
set_option maxRecDepth 20000 in
theorem take_v (w0 wB w : World) (b : Bool) (m : Int) (fs : List (List I4)) (v : Value) (rows : List Value) (l : List UInt8) (a : Option Addr) (n c : Nat) (hR : RS w0 wB w b m fs v rows) (hS : SV w (.slice a n c) (fldV l)) (hN : ins.NM w0) (hM : wd.NM w0) (hl : l.length ≤ 100000) (hf1 : fs.length ≤ 100000) (hf2 : (fs.getLastD []).length ≤ 1000000) :
    Calls Tryd.prog 35 #[.string ⟨l.toArray⟩, .slice a n c, .pointer (some ⟨w0.heap.size + 2, 0, none⟩), .pointer (some ⟨w0.heap.size + 1, 0, none⟩)] w fun e w' => ∃ v' rows', e = .returned (.int .i64 (rd1 (b, m, fs) l).2) ∧ RS w0 wB w' (rd1 (b, m, fs) l).1.1 (rd1 (b, m, fs) l).1.2.1 (rd1 (b, m, fs) l).1.2.2 v' rows' := by
  have g0 : w.cell? ⟨w0.heap.size + 2, 0, none⟩ = some (.bool b) := cel hR.r2 0
  have gf : w.frozen? ⟨w0.heap.size + 2, 0, none⟩ = false := frz hR.r2 0
  cases b with
  | false =>
    rw [rd1_mem]
    dsimp only
    have hb := hR.begun
    have hlo := hR.lo
    obtain ⟨W, hW⟩ : ∃ W, w.setCell ⟨w0.heap.size + 2, 0, none⟩ (.bool true) = W := ⟨_, rfl⟩
    have hSW : SV W (.slice a n c) (fldV l) := by rw [← hW]; exact SV.setBool hS hR.r2
    rw [hW] at hb
    have hMW : wd.NM W := hM.below hb.bel
    have CM := Lib.hid (mem_v w0 wB W true m fs v rows a n c (fldV l) hb hSW hMW (fun x hx => Nat.le_trans (fld_part l x hx) (by omega)))
    obtain ⟨cd, hcd⟩ : ∃ cd : Int, (if (memP (fldV l)).isSome then (0 : Int) else 4) = cd := ⟨_, rfl⟩
    rw [hcd] at CM ⊢
    have HW := Lib.hid hW
    clear hcd hN hM hS hR hl hf1 hf2 hb hSW hMW hW hlo
    go_enter Tryd.func35, Tryd.ntmps35
    go_wp2_with fail
    rw [HW.out]
    refine CM.out.mono ?_
    rintro e w6 ⟨rfl, h6⟩
    have H6 := Lib.hid h6
    clear h6 CM g0 gf HW
    go_wp2_with fail
    go_ret
    exact ⟨_, _, rfl, H6.out⟩
  | true =>
    have CT := Lib.hid (tl_v w0 wB w m fs v rows l a n c hR hS (hN.below hR.bel) (hM.below hR.bel) hl hf1 hf2)
    have hr : ∀ l, (rd1 (true, m, fs) l).1.1 = true ∧ (rd1 (true, m, fs) l).1.2.1 = m := fun l => by
      unfold rd1
      rw [if_neg (by simp)]
      split
      · exact ⟨rfl, rfl⟩
      · split
        · exact ⟨rfl, rfl⟩
        · split
          · exact ⟨rfl, rfl⟩
          · exact ⟨rfl, rfl⟩
    rw [(hr l).1, (hr l).2]
    clear hN hM hS hR hl hf1 hf2 hr gf
    go_enter Tryd.func35, Tryd.ntmps35
    go_wp2_with fail
    refine CT.out.mono ?_
    rintro e w6 ⟨v', rows', rfl, h6⟩
    have H6 := Lib.hid h6
    clear h6 CT g0
    go_wp2_with fail
    go_ret
    exact ⟨_, _, rfl, H6.out⟩
set_option maxRecDepth 20000 in
theorem res_pg {fn : Func} {A : Array Value} {W : World} {g : Nat} {a b e : Value} {T : TypeId} (hfn : fn.results = #[.cell 2 32, .tmp 3]) (h2 : A.getD 2 undef = .pointer (some ⟨g, 0, none⟩)) (h3 : A.getD 3 undef = e) (hF : W.heap[g]? = some (.cells #[a, b] T (0, 0))) :
    (results fn A).run Tryd.prog W = .ok (.tuple #[.agg #[a, b], e]) W := by
  rw [Array.getD_eq_getD_getElem?] at h2 h3
  have c0 : W.cell? ⟨g, 0, none⟩ = some a := cel hF 0
  have c1 : W.cell? ⟨g, 1, none⟩ = some b := cel hF 1
  simp [results, hfn, h2, h3, go_sem, c0, c1]
def st2 (w : World) (g : Nat) (a b : Value) : World := (w.setCell ⟨g, 0, none⟩ a).setCell ⟨g, 1, none⟩ b
theorem st2_blk {w : World} {g : Nat} {a b a' b' : Value} {e : TypeId} (h : w.heap[g]? = some (.cells #[a, b] e (0, 0))) : (st2 w g a' b').heap[g]? = some (.cells #[a', b'] e (0, 0)) := by
  exact st.set_blk _ _ _ _ (st.set_blk _ _ _ _ h)
theorem st2_below {w0 w : World} {B g : Nat} (h : Below B w0 w) (hg : B ≤ g) (a b : Value) : Below B w0 (st2 w g a b) :=
  (h.setCell (p := ⟨g, 0, none⟩) hg _).setCell (p := ⟨g, 1, none⟩) hg _
theorem st2_oth (w : World) (g k : Nat) (a b : Value) (h : k ≠ g) : (st2 w g a b).heap[k]? = w.heap[k]? := (st.set_oth _ _ _ _ _ h).trans (st.set_oth _ _ _ _ _ h)
theorem rdL_cons (s : RdS) (l : List UInt8) (r : List (List UInt8)) : rdL s (l :: r) = if fldV l = [] then rdL s r else if (rd1 s l).2 ≠ 0 then rd1 s l else rdL (rd1 s l).1 r := rfl
theorem drop_L {L : List (List UInt8)} {k : Nat} (h : k < L.length) : L.drop k = L.getD k [] :: L.drop (k + 1) := by
  rw [List.drop_eq_getElem_cons h, List.getD_eq_getElem?_getD, List.getElem?_eq_getElem h]; rfl
set_option maxRecDepth 20000 in
set_option maxHeartbeats 1600000 in
theorem each_v (w0 w : World) (t : List UInt8) (h0 : w.heap[w0.heap.size]? = some (.cells #[.int .i64 0, .slice none 0 0] 32 (0, 0))) (h1 : w.heap[w0.heap.size + 1]? = some (.cells #[.int .i64 0, .slice none 0 0] 32 (0, 0))) (h2 : w.heap[w0.heap.size + 2]? = some (.cells #[.bool false] 4 (0, 0))) (hb : Below w0.heap.size w0 w) (hN : ins.NM w0) (hM : wd.NM w0) (hl : t.length ≤ 60000) :
    Calls Tryd.prog 34 #[.string ⟨t.toArray⟩, clo w0.heap.size] w fun e w' => ∃ wB v rows, e = .returned (.int .i64 (rdT t).2) ∧ RS w0 wB w' (rdT t).1.1 (rdT t).1.2.1 (rdT t).1.2.2 v rows := by
  have CL := Lib.hid (wlines_v t w (by omega) (hM.below hb))
  have hlen := lin_len t
  have hpart := lin_part t
  unfold rdT
  obtain ⟨L, hL⟩ : ∃ L, linV t = L := ⟨_, rfl⟩
  rw [hL] at CL hlen hpart ⊢
  obtain ⟨R, hR⟩ : ∃ R, rdL (false, 0, []) L = R := ⟨_, rfl⟩
  rw [hR]
  have HR := Lib.hid hR
  have H0 := Lib.hid h0
  have H1 := Lib.hid h1
  have H2 := Lib.hid h2
  have HB := Lib.hid hb
  have HN := Lib.hid hN
  have HM := Lib.hid hM
  have HPT := Lib.hid (fun k (hk : k < L.length) => show (L.getD k []).length ≤ 60000 by
    have := hpart (L.getD k []) (by rw [List.getD_eq_getElem?_getD, List.getElem?_eq_getElem hk]; exact List.getElem_mem hk)
    omega)
  unfold clo
  clear h0 h1 h2 hb hN hM hpart hL hR
  go_enter Tryd.func34, Tryd.ntmps34
  go_wp2_with fail
  refine CL.out.mono ?_
  rintro e wB ⟨lv, rfl, hsv, hbB⟩
  have hRS0 : RS w0 wB wB false 0 [] (.slice none 0 0) [] := ⟨kb H0.out hbB, kb H1.out hbB, kb H2.out hbB, OP.nil _ _, fun r u e => by simp at e, tr3 HB.out hbB, ⟨Nat.le_refl _, fun _ _ _ _ => rfl⟩, by have := (Array.getElem?_eq_some_iff.1 (kb H2.out hbB)).1; omega⟩
  obtain ⟨la, lc, rfl, hlc, _⟩ := RV.form hsv
  have HS0 := Lib.hid hRS0
  have HSV := Lib.hid hsv
  obtain ⟨n, hn⟩ : ∃ n, L.length = n := ⟨_, rfl⟩
  rw [hn] at hlen HSV hlc ⊢
  have HLn := Lib.hid hn
  clear hRS0 hsv hbB CL H0 H1 H2 HB hn
  go_wp2_with fail
  go_loopw [12] (fun iv wr => ∃ (k : Nat) (s : RdS) (v : Value) (rows : List Value), iv = .int .i64 (k : Int) ∧ k ≤ n ∧ s.2.2.length ≤ k ∧ (s.2.2.getLastD []).length ≤ k ∧ Hid (rdL s (L.drop k) = R) ∧ Hid (RS w0 wB wr s.1 s.2.1 s.2.2 v rows)) (fun iv _ => n - (RowKit.intOf iv).toNat)
  case atStart => exact ⟨0, (false, 0, []), _, _, rfl, by omega, by simp, by simp, Lib.hid (by rw [List.drop_zero]; exact HR.out), HS0⟩
  case round =>
    obtain ⟨k, ⟨sb, sm, sf⟩, v, rows, rfl, hk, hk1, hk2, HST, HRS⟩ := hrel
    dsimp only at hk1 hk2 HRS
    by_cases hlt : k < n
    · have hki : (k : Int) < (n : Int) := by omega
      have hkd : decide ((k : Int) < (n : Int)) = true := decide_eq_true hki
      have hsvr := HRS.out.sv HS0.out HSV.out ⟨_, _, _, rfl⟩
      obtain ⟨bb, oo, rfl, hbl, hcl⟩ := SV.at hsvr k hlt
      have hst := HST.out
      rw [drop_L (by rw [HLn.out]; exact hlt), rdL_cons] at hst
      have hpl := HPT.out k (by rw [HLn.out]; exact hlt)
      obtain ⟨l, hlv⟩ : ∃ l, L.getD k [] = l := ⟨_, rfl⟩
      rw [hlv] at hst hpl hcl
      have CF := Lib.hid (wfields_v l wr (by omega))
      clear hsvr hlv HST
      by_cases hf : fldV l = []
      · rw [if_pos hf] at hst
        rw [hf] at CF
        have HSN := Lib.hid hst
        clear hst hf
        go_wp2_with fail
        refine CF.out.mono ?_
        rintro e w6 ⟨fv, rfl, hfv, hb6⟩
        obtain ⟨fa, fc, rfl, _⟩ := RV.form hfv
        have H6 := Lib.hid (HRS.out.below hb6)
        have hz : ([] : List (List UInt8)).length = 0 := rfl
        rw [hz]
        clear hfv hb6 CF HRS hcl
        go_wp2_with fail
        go_roundw
        case rel => exact ⟨k + 1, (sb, sm, sf), v, rows, by go_num, by omega, by dsimp only; omega, by dsimp only; omega, HSN, H6⟩
        case measure => first | (simp [RowKit.intOf]; done) | (simp [RowKit.intOf]; omega)
      · rw [if_neg hf] at hst
        have hfl : 0 < (fldV l).length := List.length_pos_iff.2 hf
        obtain ⟨nf, hnf⟩ : ∃ nf, (fldV l).length = nf := ⟨_, rfl⟩
        have hnf0 : ¬ (nf : Int) = 0 := by omega
        have hnfb : ((nf : Int) == 0) = false := by rw [beq_eq_false_iff_ne]; omega
        have CT := Lib.hid (fun w6 fa fc (hb6 : Below wr.heap.size wr w6) (hfv : SV w6 (.slice fa nf fc) (fldV l)) => take_v w0 wB w6 sb sm sf v rows l fa nf fc (HRS.out.below hb6) hfv HN.out HM.out (by omega) (by omega) (by omega))
        have hln := rd1_len (sb, sm, sf) l k hk1 hk2
        obtain ⟨r1, hrd⟩ : ∃ r1, rd1 (sb, sm, sf) l = r1 := ⟨_, rfl⟩
        rw [hrd] at hst CT hln
        obtain ⟨⟨sb', sm', sf'⟩, ec⟩ := r1
        dsimp only at hst CT hln
        have HNF := Lib.hid hnf
        clear hf hfl hrd hnf
        by_cases he : ec = 0
        · subst he
          rw [if_neg (by simp)] at hst
          have HSN := Lib.hid hst
          obtain ⟨hl1, hl2⟩ := hln
          clear hst
          go_wp2_with fail
          refine CF.out.mono ?_
          rintro e w6 ⟨fv, rfl, hfv, hb6⟩
          obtain ⟨fa, fc, rfl, _⟩ := RV.form hfv
          rw [HNF.out] at hfv ⊢
          have CT6 := Lib.hid (CT.out w6 fa fc hb6 hfv)
          clear hfv hb6 CF HRS hcl CT
          go_wp2_with fail
          refine CT6.out.mono ?_
          rintro e w7 ⟨v', rows', rfl, h7⟩
          have H7 := Lib.hid h7
          clear h7 CT6
          go_wp2_with fail
          go_roundw
          case rel => exact ⟨k + 1, (sb', sm', sf'), v', rows', by go_num, by omega, hl1, hl2, HSN, H7⟩
          case measure => first | (simp [RowKit.intOf]; done) | (simp [RowKit.intOf]; omega)
        · rw [if_pos he] at hst
          have hcb : ((ec : Int) != 0) = true := by rw [bne, beq_eq_false_iff_ne.2 he]; rfl
          subst hst
          clear hln
          go_wp2_with fail
          refine CF.out.mono ?_
          rintro e w6 ⟨fv, rfl, hfv, hb6⟩
          obtain ⟨fa, fc, rfl, _⟩ := RV.form hfv
          rw [HNF.out] at hfv ⊢
          have CT6 := Lib.hid (CT.out w6 fa fc hb6 hfv)
          clear hfv hb6 CF HRS hcl CT
          go_wp2_with fail
          refine CT6.out.mono ?_
          rintro e w7 ⟨v', rows', rfl, h7⟩
          have H7 := Lib.hid h7
          clear h7 CT6
          go_wp2_with fail
          go_ret
          exact ⟨rfl, _, _, _, H7.out⟩
    · obtain rfl : k = n := by omega
      have hki : ¬ (k : Int) < (k : Int) := by omega
      have hkd : decide ((k : Int) < (k : Int)) = false := decide_eq_false hki
      have hst := HST.out
      rw [List.drop_of_length_le (by rw [HLn.out]; exact Nat.le_refl _)] at hst
      have hst2 : ((sb, sm, sf), 0) = R := hst
      subst hst2
      clear hst HST
      go_wp2_with fail
      go_ret
      exact ⟨rfl, _, _, _, HRS.out⟩
/-- a program, and what is wrong. -/
def PGV (w : World) (x : PG × Int) (e : Value) : Prop := ∃ v, e = .tuple #[.agg #[.int .i64 x.1.1, v], .int .i64 x.2] ∧ PM w v x.1.2
theorem zero_pg (w : World) (e : Int) : PGV w ((0, []), e) (.tuple #[.agg #[.int .i64 0, .slice none 0 0], .int .i64 e]) := ⟨_, rfl, PM.nil w⟩
set_option maxRecDepth 20000 in
set_option maxHeartbeats 1600000 in
theorem read_v (w : World) (t : List UInt8) (hN : ins.NM w) (hM : wd.NM w) (hl : t.length ≤ 1000000) :
    Calls Tryd.prog 12 #[.string ⟨t.toArray⟩] w fun e w' => ∃ x, e = .returned x ∧ PGV w' (readV t) x ∧ Below w.heap.size w w' := by
  have hs := str_size t
  by_cases h6 : 60000 < t.length
  · rw [show readV t = ((0, []), 9) from if_pos h6]
    have h6i : (60000 : Int) < (t.length : Int) := by omega
    clear hN hM hl
    go_enter Tryd.func12, Tryd.ntmps12
    go_wp2_with fail
    exact bodyPost_ret (res_pg Tryd.results12 rfl rfl (heap_new w _ _)) rfl ⟨_, rfl, zero_pg _ _, by go_grown⟩
  · have h6i : ¬ (60000 : Int) < (t.length : Int) := by omega
    have hrd : readV t = if (rdT t).2 ≠ 0 then ((0, []), (rdT t).2) else if (rdT t).1.1 = false then ((0, []), 4) else if pr.prE (rdT t).1.2.1 (rdT t).1.2.2 ≠ 0 then ((0, []), pr.prE (rdT t).1.2.1 (rdT t).1.2.2) else ((rdT t).1.2, 0) := if_neg h6
    rw [hrd]
    have CE := fun w2 h0 h1 h2 hb => each_v w w2 t h0 h1 h2 hb hN hM (by omega)
    obtain ⟨⟨⟨sb, sm, sf⟩, ec⟩, hsT⟩ : ∃ r, rdT t = r := ⟨_, rfl⟩
    rw [hsT] at CE ⊢
    dsimp only at CE ⊢
    replace CE := Lib.hid CE
    obtain ⟨W0, hW0⟩ : ∃ W0, w.alloc (.cells #[.int .i64 0, .slice none 0 0] 32) = W0 := ⟨_, rfl⟩
    obtain ⟨W1, hW1⟩ : ∃ W1, W0.alloc (.cells #[.int .i64 0, .slice none 0 0] 32) = W1 := ⟨_, rfl⟩
    obtain ⟨W2, hW2⟩ : ∃ W2, W1.alloc (.cells #[.bool false] 4) = W2 := ⟨_, rfl⟩
    have s0 : W0.heap.size = w.heap.size + 1 := by rw [← hW0]; simp
    have s1 : W1.heap.size = w.heap.size + 2 := by rw [← hW1]; simp [s0]
    have k0 : W0.heap[w.heap.size]? = some (.cells #[.int .i64 0, .slice none 0 0] 32 (0, 0)) := by rw [← hW0]; exact heap_new w _ _
    have k1 : W1.heap[w.heap.size + 1]? = some (.cells #[.int .i64 0, .slice none 0 0] 32 (0, 0)) := by rw [← hW1, ← s0]; exact heap_new W0 _ _
    have k2 : W2.heap[w.heap.size + 2]? = some (.cells #[.bool false] 4 (0, 0)) := by rw [← hW2, ← s1]; exact heap_new W1 _ _
    have b0 : Below w.heap.size w W0 := by rw [← hW0]; exact (Below.refl _ _).alloc (Nat.le_refl _) _
    have b1 : Below W0.heap.size W0 W1 := by rw [← hW1]; exact (Below.refl _ _).alloc (Nat.le_refl _) _
    have b2 : Below W1.heap.size W1 W2 := by rw [← hW2]; exact (Below.refl _ _).alloc (Nat.le_refl _) _
    have CE2 := Lib.hid (CE.out W2 (kb k0 (tr3 b1 b2)) (kb k1 b2) k2 (tr3 b0 (tr3 b1 b2)))
    have HW := Lib.hid (show ((w.alloc (.cells #[.int .i64 0, .slice none 0 0] 32)).alloc (.cells #[.int .i64 0, .slice none 0 0] 32)).alloc (.cells #[.bool false] 4) = W2 by rw [hW0, hW1, hW2])
    unfold clo at CE2
    clear hN hM hl hsT CE hW0 hW1 hW2 s0 s1 k0 k1 k2 b0 b1 b2 hrd h6
    by_cases he : ec = 0
    · subst he
      rw [if_neg (by simp)]
      cases sb with
      | false =>
        rw [if_pos rfl]
        go_enter Tryd.func12, Tryd.ntmps12
        go_wp2_with fail
        rw [HW.out]
        refine CE2.out.mono ?_
        rintro e w6 ⟨wB, v, rows, rfl, hR⟩
        obtain ⟨va, vc, rfl, _⟩ := hR.own.pm.form
        have g0 : w6.cell? ⟨w.heap.size + 2, 0, none⟩ = some (.bool false) := cel hR.r2 0
        have c0 : w6.cell? ⟨w.heap.size, 0, none⟩ = some (.int .i64 0) := cel hR.r0 0
        have c1 : w6.cell? ⟨w.heap.size, 1, none⟩ = some (.slice none 0 0) := cel hR.r0 1
        have f0 : w6.frozen? ⟨w.heap.size, 0, none⟩ = false := frz hR.r0 0
        have f1 : w6.frozen? ⟨w.heap.size, 1, none⟩ = false := frz hR.r0 1
        have HRR := Lib.hid hR
        clear hR CE2 HW
        go_wp2_with fail
        exact bodyPost_ret (res_pg Tryd.results12 rfl rfl (st2_blk (a' := .int .i64 0) (b' := .slice none 0 0) HRR.out.r0)) rfl ⟨_, rfl, zero_pg _ _, st2_below HRR.out.bel (Nat.le_refl _) _ _⟩
      | true =>
        rw [if_neg (by simp)]
        obtain ⟨cc, hcc⟩ : ∃ cc, pr.prE sm sf = cc := ⟨_, rfl⟩
        rw [hcc]
        by_cases hc : cc = 0
        · subst hc
          rw [if_neg (by simp)]
          go_enter Tryd.func12, Tryd.ntmps12
          go_wp2_with fail
          rw [HW.out]
          refine CE2.out.mono ?_
          rintro e w6 ⟨wB, v, rows, rfl, hR⟩
          obtain ⟨va, vc, rfl, _⟩ := hR.own.pm.form
          have g0 : w6.cell? ⟨w.heap.size + 2, 0, none⟩ = some (.bool true) := cel hR.r2 0
          have p0 : w6.cell? ⟨w.heap.size + 1, 0, none⟩ = some (.int .i64 sm) := cel hR.r1 0
          have p1 : w6.cell? ⟨w.heap.size + 1, 1, none⟩ = some (.slice va sf.length vc) := cel hR.r1 1
          have CC := Lib.hid (pr.check_v sm va sf.length vc sf 0 w6 hR.own.pm hcc)
          have HRR := Lib.hid hR
          clear hR CE2 HW
          go_wp2_with fail
          refine CC.out.mono ?_
          rintro e w7 ⟨rfl, hb7⟩
          have h7 := HRR.out.below hb7
          have q0 : w7.cell? ⟨w.heap.size + 1, 0, none⟩ = some (.int .i64 sm) := cel h7.r1 0
          have q1 : w7.cell? ⟨w.heap.size + 1, 1, none⟩ = some (.slice va sf.length vc) := cel h7.r1 1
          have c0 : w7.cell? ⟨w.heap.size, 0, none⟩ = some (.int .i64 0) := cel h7.r0 0
          have c1 : w7.cell? ⟨w.heap.size, 1, none⟩ = some (.slice none 0 0) := cel h7.r0 1
          have f0 : w7.frozen? ⟨w.heap.size, 0, none⟩ = false := frz h7.r0 0
          have f1 : w7.frozen? ⟨w.heap.size, 1, none⟩ = false := frz h7.r0 1
          have H7 := Lib.hid h7
          clear h7 hb7 HRR CC g0 p0 p1
          go_wp2_with fail
          have hlo := H7.out.lo
          exact bodyPost_ret (res_pg Tryd.results12 rfl rfl (st2_blk (a' := .int .i64 sm) (b' := .slice va sf.length vc) H7.out.r0)) rfl ⟨_, rfl, ⟨_, rfl, OP.pm (H7.out.own.keep fun k hk => st2_oth _ _ _ _ _ (by omega))⟩, st2_below H7.out.bel (Nat.le_refl _) _ _⟩
        · rw [if_pos hc]
          have hcb : ((cc : Int) == 0) = false := beq_eq_false_iff_ne.2 hc
          have hcn : ((cc : Int) != 0) = true := by rw [bne, hcb]; rfl
          go_enter Tryd.func12, Tryd.ntmps12
          go_wp2_with fail
          rw [HW.out]
          refine CE2.out.mono ?_
          rintro e w6 ⟨wB, v, rows, rfl, hR⟩
          obtain ⟨va, vc, rfl, _⟩ := hR.own.pm.form
          have g0 : w6.cell? ⟨w.heap.size + 2, 0, none⟩ = some (.bool true) := cel hR.r2 0
          have p0 : w6.cell? ⟨w.heap.size + 1, 0, none⟩ = some (.int .i64 sm) := cel hR.r1 0
          have p1 : w6.cell? ⟨w.heap.size + 1, 1, none⟩ = some (.slice va sf.length vc) := cel hR.r1 1
          have CC := Lib.hid (pr.check_v sm va sf.length vc sf cc w6 hR.own.pm hcc)
          have HRR := Lib.hid hR
          clear hR CE2 HW
          go_wp2_with fail
          refine CC.out.mono ?_
          rintro e w7 ⟨rfl, hb7⟩
          have h7 := HRR.out.below hb7
          have c0 : w7.cell? ⟨w.heap.size, 0, none⟩ = some (.int .i64 0) := cel h7.r0 0
          have c1 : w7.cell? ⟨w.heap.size, 1, none⟩ = some (.slice none 0 0) := cel h7.r0 1
          have f0 : w7.frozen? ⟨w.heap.size, 0, none⟩ = false := frz h7.r0 0
          have f1 : w7.frozen? ⟨w.heap.size, 1, none⟩ = false := frz h7.r0 1
          have H7 := Lib.hid h7
          clear h7 hb7 HRR CC g0 p0 p1
          go_wp2_with fail
          exact bodyPost_ret (res_pg Tryd.results12 rfl rfl (st2_blk (a' := .int .i64 0) (b' := .slice none 0 0) H7.out.r0)) rfl ⟨_, rfl, zero_pg _ _, st2_below H7.out.bel (Nat.le_refl _) _ _⟩
    · rw [if_pos he]
      have hcb : ((ec : Int) == 0) = false := beq_eq_false_iff_ne.2 he
      have hcn : ((ec : Int) != 0) = true := by rw [bne, hcb]; rfl
      go_enter Tryd.func12, Tryd.ntmps12
      go_wp2_with fail
      rw [HW.out]
      refine CE2.out.mono ?_
      rintro e w6 ⟨wB, v, rows, rfl, hR⟩
      have c0 : w6.cell? ⟨w.heap.size, 0, none⟩ = some (.int .i64 0) := cel hR.r0 0
      have c1 : w6.cell? ⟨w.heap.size, 1, none⟩ = some (.slice none 0 0) := cel hR.r0 1
      have f0 : w6.frozen? ⟨w.heap.size, 0, none⟩ = false := frz hR.r0 0
      have f1 : w6.frozen? ⟨w.heap.size, 1, none⟩ = false := frz hR.r0 1
      have HRR := Lib.hid hR
      clear hR CE2 HW
      go_wp2_with fail
      exact bodyPost_ret (res_pg Tryd.results12 rfl rfl (st2_blk (a' := .int .i64 0) (b' := .slice none 0 0) HRR.out.r0)) rfl ⟨_, rfl, zero_pg _ _, st2_below HRR.out.bel (Nat.le_refl _) _ _⟩
end Go.Proofs.YtgkfnplgldigbaaDoor.asm
