/- LogParts: all loops' events are all events (layer 24). -/
import Derived.Test.YtokkgfefiblmiaaLgH
import Derived.Test.YtokkgfefiblmiaaLgI
import Derived.Test.YtokkgfefiblmiaaIntR
import Derived.Laws.MakeOwn
import Derived.Deep.Cut
import Derived.Deep.OwnRows
import Derived.BigQuiet
namespace Go.Proofs.Ytokkgfefiblmiaa.logParts
open Go.ChangeShapes Go.WideShapes Go.ChangeAt Go.RowKit
open Go.Proofs.Ytokkgfefiblmiaa.ro Go.Proofs.Ytokkgfefiblmiaa.lg
set_option linter.unusedVariables false
set_option linter.unusedSimpArgs false
attribute [local go_sem ↓] Go.wp_at_zero Go.wp_at_succ
attribute [local go_sem] Oper.semAt_some
def quadL (Z : Nat → Nat → Int) (n : Nat) : List I4 := (List.range n).map fun i => (Z i 0, Z i 1, Z i 2, Z i 3)
theorem rv_grid {w : World} {a : Option Addr} {len cap : Nat} {z : Nat → Nat → Int} (h : IsGrid [.i64, .i64, .i64, .i64] w a len cap z) : RV 4 enE w (.slice a len cap) (quadL z len) ∧ ∀ x ∈ quadL z len, (Lit.int .i64 x.2.1).wf = true := by
  have hlen : (quadL z len).length = len := by simp [quadL]
  rcases h with ⟨rfl, rfl, rfl⟩ | ⟨x, rfl, hl, hm, hc⟩
  · exact ⟨RV.nil _, fun x hx => by simp [quadL] at hx⟩
  · refine ⟨⟨some x, cap, by rw [hlen], by rw [hlen]; exact hl, hm, (fun h => by cases h), fun i q hq => ?_⟩, fun y hy => ?_⟩
    · have hi : i < len := by have := (List.getElem?_eq_some_iff.1 hq).1; rw [hlen] at this; exact this
      unfold quadL at hq
      rw [List.getElem?_map, List.getElem?_range hi] at hq
      obtain rfl := Option.some.inj hq
      obtain ⟨b, o, spot⟩ := x
      have h0 := (hc i (by omega) 0 .i64 rfl).1
      have hspot : spot = none := by simpa [Addr.add] using World.cell?_spot (hc 0 (by omega) 0 .i64 rfl).1
      subst hspot
      rw [Go.WideShapes.add_plain] at h0
      refine ⟨b, o, rfl, World.block_lt_of_cell? w _ h0, fun j u hu => ?_⟩
      rw [← Go.WideShapes.add_plain]
      match j, hu with
      | 0, hu => simp [enE] at hu; subst hu; exact (hc i (by omega) 0 .i64 rfl).1
      | 1, hu => simp [enE] at hu; subst hu; exact (hc i (by omega) 1 .i64 rfl).1
      | 2, hu => simp [enE] at hu; subst hu; exact (hc i (by omega) 2 .i64 rfl).1
      | 3, hu => simp [enE] at hu; subst hu; exact (hc i (by omega) 3 .i64 rfl).1
      | j + 4, hu => simp [enE] at hu
    · obtain ⟨i, hi, rfl⟩ := List.mem_map.1 hy
      exact (hc i (by have := List.mem_range.1 hi; omega) 1 .i64 rfl).2
theorem RV.fourE {w : World} {a : Option Addr} {n c : Nat} {E : List I4} (h : RV 4 enE w (.slice a n c) E) (i : Nat) {p q r s : Int} (hq : E[i]? = some (p, q, r, s)) :
    ∃ b o, a = some ⟨b, o, none⟩ ∧ b < w.heap.size ∧ w.cell? ⟨b, o + i * 4, none⟩ = some (.int .i64 p) ∧ w.cell? ⟨b, o + i * 4 + 1, none⟩ = some (.int .i64 q) ∧ w.cell? ⟨b, o + i * 4 + 2, none⟩ = some (.int .i64 r) ∧ w.cell? ⟨b, o + i * 4 + 3, none⟩ = some (.int .i64 s) := by
  obtain ⟨b, o, e, hl, hc⟩ := h.at i _ hq
  exact ⟨b, o, e, hl, hc 0 _ rfl, hc 1 _ rfl, hc 2 _ rfl, hc 3 _ rfl⟩
/-- Block S is N whole numbers. -/
def NR (w : World) (S N : Nat) (f : Nat → Nat) : Prop := w.rowIs S 3 N (fun i => .int .i64 ((f i : Nat) : Int))
theorem NR.below {w w' : World} {S N : Nat} {f : Nat → Nat} (h : NR w S N f) (hb : Below w.heap.size w w') : NR w' S N f :=
  h.of_block (hb.block S h.lt)
theorem NR.set {w : World} {S N : Nat} {f : Nat → Nat} (h : NR w S N f) (i x : Nat) : NR (w.setCell ⟨S, i, none⟩ (.int .i64 ((x : Nat) : Int))) S N (fun j => if j = i then x else f j) :=
  (World.rowIs.set h i _).congr fun j hj => by dsimp only; split <;> rfl
theorem NR.congr {w : World} {S N : Nat} {f g : Nat → Nat} (h : NR w S N f) (e : ∀ i, i < N → f i = g i) : NR w S N g :=
  World.rowIs.congr h fun i hi => by rw [e i hi]
theorem NR.at {w : World} {S N : Nat} {f : Nat → Nat} (h : NR w S N f) (i x : Nat) (hi : i < N) (hx : f i = x) : w.cell? ⟨S, i, none⟩ = some (.int .i64 (x : Int)) := by
  rw [World.rowIs.cell h hi, hx]
def intsObj (n : Nat) : Obj := .cells (madeCells #[.int .i64 0] n) 3
theorem mk_ints (n : Nat) (hn : n ≤ 2000) (w : World) : (Instr.makeSlice 29 (.int .i64 (n : Int)) (.int .i64 (n : Int))).run Try.prog w = .ok (.slice (some ⟨w.heap.size, 0, none⟩) n n) (w.alloc (intsObj n)) :=
  run_make_row' _ _ (.int .i64 0) 8 Try.underlying29 infoI rfl .i64 .i64 n (by omega) (by omega) w
theorem made_ints (n : Nat) (w : World) : NR (w.alloc (intsObj n)) w.heap.size n (fun _ => 0) := World.rowIs_made w (.int .i64 0) n 3
theorem NR.low {w w' : World} {S N : Nat} {f : Nat → Nat} (h : NR w S N f) (hb : w'.heap[S]? = w.heap[S]?) : NR w' S N f := h.of_block hb
theorem OR.base {w : World} {B B' e : Nat} {v : Value} {xs : List I4} (h : OR 4 enE w B e v xs) (hb : B' ≤ B) : OR 4 enE w B' e v xs := by
  obtain ⟨hl, h1 | ⟨g, cap, cur, h1, h2, h3⟩⟩ := h
  · exact ⟨hl, .inl h1⟩
  · exact ⟨hl, .inr ⟨g, cap, cur, h1, by omega, h3⟩⟩
theorem cnt_le (es : List I4) (L : List Int) (hL : ∀ z, L.count z ≤ 1) (q i j : Nat) (y : Int) (hj : j < es.length) : (allp es (L.take q) ++ (plc y es es.length).take i).count j ≤ 2 := by
  rw [List.count_append, allp_count es j hj]
  have h1 := (List.take_sublist q L).count_le (es.getD j (0, 0, 0, 0)).2.1
  have h2 := (List.take_sublist i (plc y es es.length)).count_le j
  have h3 := hL (es.getD j (0, 0, 0, 0)).2.1
  rw [plc_count] at h2
  split at h2 <;> omega
theorem dds_all (xs : List Int) (z : Int) : (dds xs).count z ≤ 1 := (dds_count z xs [] (by simp)).1
theorem bl_trans {A : Nat} {u v w : World} (h : Below A u v) (h2 : Below v.heap.size v w) (hs : A ≤ v.heap.size) : Below A u w := h.trans (h2.mono hs)
set_option maxRecDepth 20000 in
set_option maxHeartbeats 8000000 in
theorem core (a : Option Addr) (n c : Nat) (es : List I4) (w : World) (h : RV 4 enE w (.slice a n c) es) (hwf : ∀ x ∈ es, (Lit.int .i64 x.2.1).wf = true) :
    Calls Try.prog 3 #[.slice a n c] w fun e w' => e = .returned (.bool true) ∧ Below w.heap.size w w' := by
  obtain ⟨hnl, hnc, hcm⟩ := h.len
  have HR := Lib.hid h
  have HN := Lib.hid hnl
  have HWF := Lib.hid hwf
  have HWK := Lib.hid (works_v w)
  clear h hnl hwf
  by_cases hbig : 150 < n
  · go_enter Try.func3, Try.ntmps3
    go_wp2_with (go_at_call 5; (with_reducible refine HWK.out.mono ?_); rintro _ w1 ⟨rfl, hb1⟩)
    go_ret
    exact ⟨rfl, hb1⟩
  · have hbig' : n ≤ 150 := by omega
    go_enter Try.func3, Try.ntmps3
    go_wp2_with (first | (go_at_call 5; (with_reducible refine HWK.out.mono ?_); rintro _ w1 ⟨rfl, hb1⟩; have HB1 := Lib.hid hb1; clear hb1) | (go_at_call 6; (with_reducible refine (new_v w1).mono ?_); rintro _ w2 ⟨rfl, hb2, hA⟩; have HB2 := Lib.hid hb2; have HA := Lib.hid hA; clear hb2 hA))
    obtain ⟨A, hA⟩ : ∃ A, w1.heap.size = A := ⟨_, rfl⟩
    rw [hA] at HA ⊢
    have HE := Lib.hid hA
    clear hA hbig
    go_loopw [4] (fun x wr => ∃ k : Nat, k ≤ n ∧ x = .int .i64 (k : Int) ∧ Hid (Below A w1 wr ∧ A ≤ wr.heap.size ∧ ∃ v, LG A wr A v (es.take k))) (fun x _ => n - (intOf x).toNat)
    case atStart => exact ⟨0, Nat.zero_le _, by go_num, Lib.hid ⟨by rw [← HE.out]; exact HB2.out, by rw [← HE.out]; exact HB2.out.size, _, HA.out⟩⟩
    case round =>
      obtain ⟨k, hk, rfl, HK⟩ := hrel
      by_cases hlt : k < n
      · obtain ⟨⟨p, q, r, s⟩, hx⟩ : ∃ x, es[k]? = some x := ⟨es[k]'(by rw [← HN.out]; exact hlt), by simp⟩
        have hb0 : Below w.heap.size w wr := HB1.out.trans ((HK.out.1).mono (by rw [← HE.out]; exact HB1.out.size))
        obtain ⟨b, o, rfl, hbl, c0, c1, c2, c3⟩ := RV.fourE (HR.out.below hb0) k hx
        have d1 : (k : Int) < (n : Int) := by omega
        have HT : Hid (es.take k ++ [(p, q, r, s)] = es.take (k + 1)) := Lib.hid (by rw [List.take_add_one, hx]; rfl)
        have HNt : Hid (Calls Try.prog 7 #[.pointer (some ⟨A, 0, none⟩), .agg #[.int .i64 p, .int .i64 q, .int .i64 r, .int .i64 s]] wr fun e w' => e = .returned (.tuple #[]) ∧ Hid (Below A w1 w' ∧ A ≤ w'.heap.size ∧ ∃ v, LG A w' A v (es.take (k + 1)))) := Lib.hid (by
          obtain ⟨h1, h2, v, h3⟩ := HK.out
          refine (note_v h3 h2 (by rw [List.length_take]; omega) p q r s).mono ?_
          rintro e w' ⟨rfl, v', h4, h5⟩
          exact ⟨rfl, Lib.hid ⟨h1.trans h5, Nat.le_trans h2 h5.size, v', HT.out ▸ h4⟩⟩)
        clear hx hb0
        go_wp2_with (go_at_call 7; (with_reducible refine HNt.out.mono ?_); rintro _ w3 ⟨rfl, HF⟩)
        go_roundw
        case rel => exact ⟨k + 1, by omega, by go_num, HF⟩
        case measure => simp [intOf]; omega
      · obtain rfl : k = n := by omega
        have hmk := mk_ints k (by omega)
        obtain ⟨W0, hW0⟩ : ∃ W0, wr = W0 := ⟨_, rfl⟩
        rw [hW0] at HK ⊢
        clear hW0 hk hlt
        have HL : Hid (Calls Try.prog 8 #[.pointer (some ⟨A, 0, none⟩)] (W0.alloc (intsObj k)) fun e W' => ∃ u, e = .returned u ∧ Hid (OI W' (W0.alloc (intsObj k)).heap.size u (dds (es.map fun x => x.2.1)) ∧ Below (W0.alloc (intsObj k)).heap.size (W0.alloc (intsObj k)) W')) := Lib.hid (by
          obtain ⟨h1, h2, v, h3⟩ := HK.out
          rw [List.take_of_length_le (by rw [← HN.out]; exact Nat.le_refl _)] at h3
          have ha : Below W0.heap.size W0 (W0.alloc (intsObj k)) := (Below.refl _ _).alloc (Nat.le_refl _) _
          refine (loops_v A A v es _ (by rw [← HN.out]; omega) HWF.out (h3.below ha)).mono ?_
          rintro e w' ⟨u, rfl, h4, h5⟩
          exact ⟨u, rfl, Lib.hid ⟨h4, h5⟩⟩)
        go_wp2_with (go_at_call 8; (with_reducible refine HL.out.mono ?_); rintro _ W1 ⟨lv, rfl, hlv⟩)
        have HBO : Hid (Below w.heap.size w W0) := Lib.hid (HB1.out.trans (HK.out.1.mono (by rw [← HE.out]; exact HB1.out.size)))
        obtain ⟨LL, hLL⟩ : ∃ LL, dds (es.map fun x => x.2.1) = LL := ⟨_, rfl⟩
        rw [hLL] at hlv
        have HLL := Lib.hid hLL
        clear hLL
        have hsz : (W0.alloc (intsObj k)).heap.size = W0.heap.size + 1 := by simp
        obtain ⟨la, lc, hls, _, _, hllc, hlcell⟩ := OI.form hlv.out.1
        obtain ⟨M, hM⟩ : ∃ M, LL.length = M := ⟨_, rfl⟩
        rw [hM] at hls
        have HM := Lib.hid hM
        have HLS := Lib.hid hls
        subst hls
        obtain ⟨LP, hLP⟩ : ∃ LP : Nat → World → Prop, LP = fun q wr => Below W0.heap.size W0 wr ∧ NR wr W0.heap.size k (fun j => (allp es (LL.take q)).count j) ∧ OI wr (W0.heap.size + 1) (.slice la M lc) LL := ⟨_, rfl⟩
        have HLP := Lib.hid hLP
        have H0 : Hid (LP 0 W1) := Lib.hid (by
          rw [hLP]
          obtain ⟨h4, h5⟩ := hlv.out
          rw [hsz] at h4
          refine ⟨((Below.refl W0.heap.size W0).alloc (Nat.le_refl _) _).trans (h5.mono (by simp)), ?_, h4⟩
          exact ((made_ints k W0).below h5).congr fun i _ => rfl)
        have hM150 : M ≤ 150 := by
          have h1 := dds_le (es.map fun x => x.2.1)
          rw [HLL.out, HM.out, List.length_map, ← HN.out] at h1
          omega
        clear hLP hM hlv hlcell hllc hsz HL hmk
        go_loopw [7] (fun x wr => ∃ q : Nat, q ≤ M ∧ x = .int .i64 (q : Int) ∧ Hid (LP q wr)) (fun x _ => M - (intOf x).toNat)
        case atStart => exact ⟨0, Nat.zero_le _, by go_num, H0⟩
        case round =>
          obtain ⟨q, hq, rfl, HQ⟩ := hrel
          by_cases hlt : q < M
          · have HQ3 : Hid (OI wr (W0.heap.size + 1) (.slice la M lc) LL) := Lib.hid (by have h := HQ.out; rw [HLP.out] at h; exact h.2.2)
            obtain ⟨la', lc', hls, hla0, _, _, hlc⟩ := OI.form HQ3.out
            rw [HM.out, Value.slice.injEq] at hls
            obtain ⟨rfl, _, rfl⟩ := hls
            cases la with
            | none =>
              have := (hla0 rfl).1
              have h2 := HM.out
              rw [this] at h2
              simp at h2
              omega
            | some ad =>
            obtain ⟨g, rfl, hgl, hgB, hgc⟩ := hlc ad rfl
            obtain ⟨y, hy⟩ : ∃ y, LL[q]? = some y := ⟨LL[q]'(by rw [HM.out]; exact hlt), by simp⟩
            have cq : wr.cell? ⟨g, q, none⟩ = some (.int .i64 y) := by
              have := hgc q (by rw [HM.out]; exact hlt)
              rw [List.getD_eq_getElem?_getD, hy, Nat.zero_add] at this
              exact this
            have d1 : (q : Int) < (M : Int) := by omega
            have HY := Lib.hid hy
            have HOf : Hid (Calls Try.prog 9 #[.pointer (some ⟨A, 0, none⟩), .int .i64 y, .int .i64 ((k : Int) + 1)] wr fun e W' => ∃ a b, e = .returned (.tuple #[a, b]) ∧ Hid (OR 4 enE W' (wr.heap.size + 6) 28 a ((tel (ql y) es es.length).map fun x => x.2) ∧ W'.ownsRow (wr.heap.size + 6) 3 1 b (tel (ql y) es es.length).length (((tel (ql y) es es.length).map fun x => x.1).map (Value.int .i64)) ∧ Below wr.heap.size wr W')) := Lib.hid (by
              obtain ⟨h1, h2, v, h3⟩ := HK.out
              rw [List.take_of_length_le (by rw [← HN.out]; exact Nat.le_refl _)] at h3
              have hb : Below W0.heap.size W0 wr := by have h := HQ.out; rw [HLP.out] at h; exact h.1
              refine (of_v (h3.below hb) (by rw [← HN.out]; omega) y _ (by rw [← HN.out]; omega)).mono ?_
              rintro e W' ⟨a, b, rfl, h4, h5, h6, _⟩
              exact ⟨a, b, rfl, Lib.hid ⟨h4, h5, h6⟩⟩)
            clear hy hgc hlc hla0
            go_wp2_with (go_at_call 9; (with_reducible refine HOf.out.mono ?_); rintro _ W2 ⟨xv, yv, rfl, hxy⟩)
            obtain ⟨P, hP⟩ : ∃ P, plc y es es.length = P := ⟨_, rfl⟩
            have hT := plc_tel y es es.length
            rw [hP] at hT
            have HP := Lib.hid hP
            have hsW : W0.heap.size + 1 ≤ wr.heap.size := by have h := HQ.out; rw [HLP.out] at h; exact h.2.1.lt
            obtain ⟨m, hm⟩ : ∃ m, P.length = m := ⟨_, rfl⟩
            have hX : Hid (OR 4 enE W2 (W0.heap.size + 1) 28 xv (P.map fun p => es.getD p (0, 0, 0, 0)) ∧ OI W2 (W0.heap.size + 1) yv (P.map fun p : Nat => (p : Int)) ∧ Below wr.heap.size wr W2) := Lib.hid (by
              obtain ⟨h1, h2, h3⟩ := hxy.out
              rw [hT] at h1 h2
              rw [List.map_map] at h1
              refine ⟨OR.base h1 (by omega), OI.base ?_ (show W0.heap.size + 1 ≤ wr.heap.size + 6 by omega), h3⟩
              rw [OI]
              simp only [List.map_map, List.length_map, Function.comp_def] at h2 ⊢
              exact h2)
            obtain ⟨xa, xc, hxs⟩ := OR.form hX.out.1
            obtain ⟨ya, yc, hys, _⟩ := OI.form hX.out.2.1
            rw [List.length_map, hm] at hxs hys
            subst hxs hys
            have Hm := Lib.hid hm
            have hm150 : m ≤ 150 := by
              have h1 := tel_le (ql y) es es.length
              rw [hT, List.length_map, hm, ← HN.out] at h1
              omega
            obtain ⟨LQ, hLQ⟩ : ∃ LQ : Nat → World → Prop, LQ = fun i wr => Below W0.heap.size W0 wr ∧ NR wr W0.heap.size k (fun j => (allp es (LL.take q) ++ P.take i).count j) ∧ OI wr (W0.heap.size + 1) (.slice (some ⟨g, 0, none⟩) M lc) LL ∧ OR 4 enE wr (W0.heap.size + 1) 28 (.slice xa m xc) (P.map fun p => es.getD p (0, 0, 0, 0)) ∧ OI wr (W0.heap.size + 1) (.slice ya m yc) (P.map fun p : Nat => (p : Int)) := ⟨_, rfl⟩
            have HLQ := Lib.hid hLQ
            have HL0 : Hid (LQ 0 W2) := Lib.hid (by
              rw [hLQ]
              have h := HQ.out
              rw [HLP.out] at h
              obtain ⟨h1, h2, h3⟩ := hX.out
              refine ⟨h.1.trans (h3.mono (by omega)), ?_, h.2.2.below h3, h1, h2⟩
              exact (h.2.1.below h3).congr fun j _ => by simp)
            clear hLQ hm hP hT hxy hX cq
            obtain ⟨wO, rfl⟩ : ∃ wO, wO = wr := ⟨_, rfl⟩
            go_loopw [10] (fun x wr => ∃ i : Nat, i ≤ m ∧ x = .int .i64 (i : Int) ∧ Hid (LQ i wr)) (fun x _ => m - (intOf x).toNat)
            case atStart => exact ⟨0, Nat.zero_le _, by go_num, HL0⟩
            case round =>
              obtain ⟨i, hi, rfl, HI⟩ := hrel
              by_cases hlt2 : i < m
              · obtain ⟨p, hp⟩ : ∃ p, P[i]? = some p := ⟨P[i]'(by rw [Hm.out]; exact hlt2), by simp⟩
                have hpk : p < k := by rw [HN.out]; exact plc_lt y es es.length p (by rw [HP.out]; exact List.mem_of_getElem? hp)
                obtain ⟨⟨x0, x1, x2, x3⟩, hx⟩ : ∃ x, es[p]? = some x := ⟨es[p]'(by rw [← HN.out]; exact hpk), by simp⟩
                have hI := HI.out
                rw [HLQ.out] at hI
                have hbw : Below w.heap.size w wr := HBO.out.trans (hI.1.mono HBO.out.size)
                obtain ⟨bl, ol, rfl, hbl, l0, l1, l2, l3⟩ := RV.fourE (HR.out.below hbw) p hx
                have hgx : es.getD p (0, 0, 0, 0) = (x0, x1, x2, x3) := by rw [List.getD_eq_getElem?_getD, hx]; rfl
                obtain ⟨bx, ox, rfl, hbx, m0, m1, m2, m3⟩ := RV.fourE (OR.rv recE hI.2.2.2.1) i (by rw [List.getElem?_map, hp, Option.map_some, hgx])
                obtain ⟨ya', yc', hys, hy0, _, _, hyc⟩ := OI.form hI.2.2.2.2
                rw [List.length_map, Hm.out, Value.slice.injEq] at hys
                obtain ⟨rfl, _, rfl⟩ := hys
                cases ya with
                | none =>
                  have := (hy0 rfl).1
                  have h2 := Hm.out
                  rw [List.map_eq_nil_iff] at this
                  rw [this] at h2
                  simp at h2
                  omega
                | some yd =>
                obtain ⟨gy, rfl, hgyl, hgyB, hgyc⟩ := hyc yd rfl
                have yi : wr.cell? ⟨gy, i, none⟩ = some (.int .i64 (p : Int)) := by
                  have := hgyc i (by rw [List.length_map, Hm.out]; exact hlt2)
                  rw [List.getD_eq_getElem?_getD, List.getElem?_map, hp, Nat.zero_add] at this
                  exact this
                obtain ⟨cn, hcn⟩ : ∃ cn, (allp es (LL.take q) ++ P.take i).count p = cn := ⟨_, rfl⟩
                have hs1 : wr.cell? ⟨W0.heap.size, p, none⟩ = some (.int .i64 (cn : Int)) := hI.2.1.at p cn hpk hcn
                have hs2 : W0.heap.size < wr.heap.size := hI.2.1.lt
                have hcn2 : cn ≤ 2 := by
                  rw [← hcn, ← HP.out]
                  exact cnt_le es LL (by rw [← HLL.out]; exact dds_all _) q i p y (by rw [← HN.out]; exact hpk)
                have hfz : wr.frozen? ⟨W0.heap.size, p, none⟩ = false := World.rowIs.frozen hI.2.1 p
                have e1 : (i : Int) < (m : Int) := by omega
                have e2 : ¬ (p : Int) < 0 := by omega
                have e3 : ¬ (k : Int) ≤ (p : Int) := by omega
                have e4 : (p : Int) < (k : Int) := by omega
                have e5 : 0 ≤ (p : Int) := by omega
                have e8 : decide ((p : Int) < 0) = false := decide_eq_false e2
                have e9 : decide ((k : Int) ≤ (p : Int)) = false := decide_eq_false e3
                have e10 : decide (k ≤ p) = false := decide_eq_false (by omega)
                have e11 : ¬ k ≤ p := by omega
                have HFin : Hid (∀ nq, LQ (i + 1) ((wr.drewN nq).setCell ⟨W0.heap.size, p, none⟩ (.int .i64 ((cn : Int) + 1)))) := Lib.hid (fun nq => by
                  rw [HLQ.out]
                  obtain ⟨i1, i2, i3, i4, i5⟩ := hI
                  have hd : Below wr.heap.size wr (wr.drewN nq) := lg.below_drewN wr nq
                  refine ⟨(i1.trans (hd.mono i1.size)).setCell (p := ⟨W0.heap.size, p, none⟩) (Nat.le_refl _) _, ?_, own_keep i3 (fun g1 hge _ _ => set_oth _ _ _ _ _ (by omega)), OR.blk i4 (fun g1 he => set_oth _ _ _ _ _ (by have := (i4.lt g1 he).1; omega)), own_keep i5 (fun g1 hge _ _ => set_oth _ _ _ _ _ (by omega))⟩
                  refine ((i2.below hd).set p (cn + 1)).congr fun j hj => ?_
                  rw [List.take_add_one, hp, ← List.append_assoc]
                  have key : List.count j (allp es (LL.take q) ++ P.take i ++ (some p).toList) = List.count j (allp es (LL.take q) ++ P.take i) + List.count j (some p).toList := List.count_append
                  rw [key]
                  by_cases e : j = p
                  · subst e
                    rw [if_pos rfl, hcn]
                    simp
                  · have : List.count j (some p).toList = 0 := by rw [List.count_eq_zero]; simpa using e
                    rw [if_neg e, this, Nat.add_zero])
                have HYC := Lib.hid hgyc
                clear hI hbw hx hgx hyc hy0 hgyc hcn HI HLQ HQ HQ3 HL0 H0 HOf
                by_cases hi0 : 0 < i
                · obtain ⟨j, hj⟩ : ∃ j, i = j + 1 := ⟨i - 1, by omega⟩
                  obtain ⟨p2, hp2⟩ : ∃ p2, P[j]? = some p2 := ⟨P[j]'(by rw [Hm.out]; omega), by simp⟩
                  have yj : wr.cell? ⟨gy, j, none⟩ = some (.int .i64 (p2 : Int)) := by
                    have := HYC.out j (by rw [List.length_map, Hm.out]; omega)
                    rw [List.getD_eq_getElem?_getD, List.getElem?_map, hp2, Nat.zero_add] at this
                    exact this
                  have hpp : ¬ (p : Int) ≤ (p2 : Int) := by
                    have h1 := plc_up y es es.length
                    rw [HP.out] at h1
                    have h2 := List.pairwise_iff_getElem.1 h1 j i (by rw [Hm.out]; omega) (by rw [Hm.out]; omega) (by omega)
                    have h3 : P[j]'(by rw [Hm.out]; omega) = p2 := Option.some.inj ((List.getElem?_eq_getElem (by rw [Hm.out]; omega)).symm.trans hp2)
                    have h4 : P[i]'(by rw [Hm.out]; omega) = p := Option.some.inj ((List.getElem?_eq_getElem (by rw [Hm.out]; omega)).symm.trans hp)
                    omega
                  have f1 : (0 : Int) < (i : Int) := by omega
                  have f2 : (i : Int) - 1 = (j : Int) := by omega
                  have f3 : IntKind.i64.wrap (j : Int) = (j : Int) := by rw [IntKind.wrap_i64]; omega
                  have f4 : (j : Int) < (m : Int) := by omega
                  have f5 : j < m := by omega
                  have h2 : decide ((p : Int) ≤ (p2 : Int)) = false := decide_eq_false hpp
                  have h3 : decide (p ≤ p2) = false := decide_eq_false (by omega)
                  have h4 : ¬ p ≤ p2 := by omega
                  have g1 : decide ((0 : Int) < (i : Int)) = true := decide_eq_true f1
                  have g3 : decide (0 < i) = true := decide_eq_true hi0
                  clear hj hp2 hp HYC
                  go_wp2_with fail
                  go_quiet (fail)
                  go_wp2_with fail
                  go_roundw
                  case rel => exact ⟨i + 1, by omega, by go_num, Lib.hid (HFin.out _)⟩
                  case measure => simp [intOf]; omega
                · have f1 : ¬ (0 : Int) < (i : Int) := by omega
                  have f2 : decide ((0 : Int) < (i : Int)) = false := decide_eq_false f1
                  have f4 : decide (0 < i) = false := decide_eq_false hi0
                  clear hp HYC
                  go_wp2_with fail
                  go_quiet (fail)
                  go_wp2_with fail
                  go_roundw
                  case rel => exact ⟨i + 1, by omega, by go_num, Lib.hid (HFin.out _)⟩
                  case measure => simp [intOf]; omega
              · obtain rfl : i = m := by omega
                have HNx : Hid (LP (q + 1) wr) := Lib.hid (by
                  have h := HI.out
                  rw [HLQ.out] at h
                  rw [HLP.out]
                  refine ⟨h.1, h.2.1.congr fun j _ => ?_, h.2.2.1⟩
                  rw [← Hm.out, List.take_length, List.take_add_one, HY.out]
                  show _ = (allp es (LL.take q ++ [y])).count j
                  rw [← HP.out]
                  simp [allp])
                clear HI HLQ
                go_wp2_with fail
                go_roundw
                case rel => exact ⟨q + 1, Nat.succ_le_of_lt hlt, by go_num, HNx⟩
                case measure => have hlt' := hlt; simp [intOf]; omega
          · obtain rfl : q = M := by omega
            have hQ := HQ.out
            rw [HLP.out] at hQ
            have H1 : ∀ j, j < k → wr.cell? ⟨W0.heap.size, j, none⟩ = some (.int .i64 1) := fun j hj => by
              have h1 := hQ.2.1.at j 1 hj (by
                rw [← HM.out, List.take_length, ← HLL.out, allp_count es j (by rw [← HN.out]; exact hj), dds_one]
                refine List.mem_map.2 ⟨es[j]'(by rw [← HN.out]; exact hj), List.getElem_mem _, ?_⟩
                rw [List.getD_eq_getElem?_getD, List.getElem?_eq_getElem (by rw [← HN.out]; exact hj)]
                rfl)
              exact h1
            have hs2 : W0.heap.size < wr.heap.size := hQ.2.1.lt
            have HB : Hid (Below w.heap.size w wr) := Lib.hid (HBO.out.trans (hQ.1.mono HBO.out.size))
            clear hQ HQ HLP H0
            obtain ⟨wO, rfl⟩ : ∃ wO, wO = wr := ⟨_, rfl⟩
            go_wp2_with fail
            go_loopw [11] (fun x w3 => ∃ j : Nat, j ≤ k ∧ x = .int .i64 (j : Int) ∧ w3 = wO) (fun x _ => k - (intOf x).toNat)
            case atStart => exact ⟨0, Nat.zero_le _, by go_num, by first | rfl | trivial⟩
            case round =>
              obtain ⟨j, hj, rfl, rfl⟩ := hrel
              by_cases hlt : j < k
              · have c1 := H1 j hlt
                have d1 : (j : Int) < (k : Int) := by omega
                clear H1
                go_wp2_with fail
                go_roundw
                case rel => exact ⟨j + 1, by omega, by go_num, by first | rfl | trivial⟩
                case measure => simp [intOf]; omega
              · obtain rfl : j = k := by omega
                clear H1
                go_wp2_with fail
                go_ret
                exact ⟨rfl, HB.out⟩
theorem walk (a0 : Option Addr) (len0 cap0 : Nat) (z0 : Nat → Nat → Int) (w : World) (w0 : IsGrid [.i64, .i64, .i64, .i64] w a0 len0 cap0 z0) :
    Calls Try.prog 3 #[.slice a0 len0 cap0] w fun e w' => e = .returned (.bool true) ∧ Below w.heap.size w w' :=
  core a0 len0 cap0 _ w (rv_grid w0).1 (rv_grid w0).2
end Go.Proofs.Ytokkgfefiblmiaa.logParts
