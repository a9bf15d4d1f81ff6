/- Pure: more blanks, and lines without words, change nothing of what is read (layer 6). -/
import Derived.Test.YtgkfnplgldigbaaDoorAsR
import Derived.Test.YtgkfnplgldigbaaDoorAsW
import Derived.Test.YtgkfnplgldigbaaDoorAsG
import Derived.Test.YtgkfnplgldigbaaDoorAsL
import Derived.Test.YtgkfnplgldigbaaDoorPuA
import Derived.Test.YtgkfnplgldigbaaDoorPuB
namespace Go.Proofs.YtgkfnplgldigbaaDoor.asm
open Go.ChangeShapes Go.WideShapes Go.ChangeAt Go.RowKit
open Go.Proofs.YtgkfnplgldigbaaDoor.wd
set_option linter.unusedVariables false
set_option linter.unusedSimpArgs false
def loB (g : List UInt8) (c : UInt8) : List UInt8 := if c = 32 then g ++ [32] else if c = 10 then g ++ [10] ++ (g ++ [10]) ++ g else [c]
def loL (g : List UInt8) (s : List UInt8) : List UInt8 := (s.map (loB g)).flatten
def loose (g : List UInt8) (s : List UInt8) : List UInt8 := (g ++ [10]) ++ loL g s
theorem loL_nil (g : List UInt8) : loL g [] = [] := rfl
theorem loL_cons (g : List UInt8) (c : UInt8) (s : List UInt8) : loL g (c :: s) = loB g c ++ loL g s := rfl
theorem loL_app (g a b : List UInt8) : loL g (a ++ b) = loL g a ++ loL g b := by unfold loL; rw [List.map_append, List.flatten_append]
theorem loL_snoc (g a : List UInt8) (c : UInt8) : loL g (a ++ [c]) = loL g a ++ loB g c := by rw [loL_app, loL_cons, loL_nil, List.append_nil]
abbrev gp (k : Nat) : List UInt8 := List.replicate k 32
theorem fldX_blank (word r : List UInt8) : fldX word (32 :: r) = (if ne word then [word] else []) ++ fldX [] r := fldX_cut word r
theorem fldX_gap (k : Nat) (r : List UInt8) : fldX [] (gp k ++ r) = fldX [] r := by
  induction k with
  | zero => rfl
  | succ k ih =>
    rw [show gp (k + 1) = 32 :: gp k from rfl, List.cons_append, fldX_blank, ih]
    rfl
theorem gp_comm (k : Nat) (r : List UInt8) : gp k ++ 32 :: r = 32 :: (gp k ++ r) := by
  induction k with
  | zero => rfl
  | succ k ih => rw [show gp (k + 1) = 32 :: gp k from rfl, List.cons_append, ih, List.cons_append]
theorem fldX_lo (k : Nat) : ∀ (x word : List UInt8), (∀ c ∈ x, c ≠ 10) → fldX word (loL (gp k) x ++ gp k) = fldX word x := by
  intro x
  induction x with
  | nil =>
    intro word _
    rw [loL_nil, List.nil_append, fldX_end]
    cases k with
    | zero => exact fldX_end word
    | succ k =>
      have := fldX_gap k []
      rw [List.append_nil] at this
      rw [show gp (k + 1) = 32 :: gp k from rfl, fldX_blank, this, fldX_end]
      simp [ne]
  | cons c x ih =>
    intro word h
    have hc := h c (by simp)
    have hx := fun y hy => h y (List.mem_cons_of_mem _ hy)
    rw [loL_cons, List.append_assoc]
    unfold loB
    by_cases h32 : c = 32
    · subst h32
      rw [if_pos rfl, List.append_assoc, List.singleton_append, gp_comm, fldX_blank, fldX_gap, ih [] hx, fldX_blank]
    · rw [if_neg h32, if_neg hc, show c :: x = [c] ++ x from rfl, fldX_more word [c] _ (by simpa using h32), fldX_more word [c] _ (by simpa using h32), ih _ hx]
theorem fld_lo (j k : Nat) (x : List UInt8) (hx : ∀ c ∈ x, c ≠ 10) : fldV (gp j ++ loL (gp k) x ++ gp k) = fldV x := by
  rw [← fldX_nil, List.append_assoc, fldX_gap, fldX_lo k x [] hx, fldX_nil]
theorem fld_gp (k : Nat) : fldV (gp k) = [] := by
  have := fldX_gap k []
  rw [List.append_nil, fldX_nil] at this
  rw [this]
  rfl
theorem gp_10 (k : Nat) : ∀ c ∈ gp k, c ≠ 10 := by
  intro c hc
  rw [List.eq_of_mem_replicate hc]
  decide
theorem lo_10 (k : Nat) : ∀ (x : List UInt8), (∀ c ∈ x, c ≠ 10) → ∀ c ∈ loL (gp k) x, c ≠ 10 := by
  intro x
  induction x with
  | nil => intro _ c hc; simp [loL_nil] at hc
  | cons a x ih =>
    intro h c hc
    have ha := h a (by simp)
    rw [loL_cons] at hc
    rcases List.mem_append.1 hc with hc | hc
    · unfold loB at hc
      by_cases h32 : a = 32
      · rw [if_pos h32] at hc
        rcases List.mem_append.1 hc with hc | hc
        · exact gp_10 k c hc
        · rw [List.mem_singleton] at hc; subst hc; decide
      · rw [if_neg h32, if_neg ha, List.mem_singleton] at hc
        subst hc
        exact ha
    · exact ih (fun y hy => h y (List.mem_cons_of_mem _ hy)) c hc
theorem lo_len (k : Nat) (hk : k ≤ 3) : ∀ (x : List UInt8), (∀ c ∈ x, c ≠ 10) → (loL (gp k) x).length ≤ 4 * x.length := by
  intro x
  induction x with
  | nil => intro _; simp [loL_nil]
  | cons a x ih =>
    intro h
    have ha := h a (by simp)
    have h1 := ih (fun y hy => h y (List.mem_cons_of_mem _ hy))
    rw [loL_cons, List.length_append, List.length_cons]
    have h2 : (loB (gp k) a).length ≤ 4 := by
      unfold loB
      by_cases h32 : a = 32
      · rw [if_pos h32, List.length_append, List.length_replicate, List.length_singleton]; omega
      · rw [if_neg h32, if_neg ha, List.length_singleton]; omega
    omega
/-- the lines of a text with gaps. -/
def loW (j k : Nat) : List (List UInt8) → List (List UInt8)
  | [] => if j = 0 then [] else [gp j]
  | x :: L => (gp j ++ loL (gp k) x ++ gp k) :: gp k :: loW k k L
theorem lin_lo (k : Nat) : ∀ (L : List (List UInt8)) (j : Nat), (∀ x ∈ L, ∀ c ∈ x, c ≠ 10) → linX (gp j) (loL (gp k) (txt L)) = loW j k L := by
  intro L
  induction L with
  | nil =>
    intro j _
    show linX (gp j) [] = _
    rw [linX_end, loW]
    cases j with
    | zero => rfl
    | succ j => rw [if_neg (by simp [gp, List.replicate]), if_neg (by omega)]
  | cons x L ih =>
    intro j h
    have hx := h x (by simp)
    have e : txt (x :: L) = x ++ 10 :: txt L := by simp [txt]
    have e2 : loB (gp k) 10 = gp k ++ 10 :: (gp k ++ 10 :: gp k) := by
      unfold loB
      rw [if_neg (by decide), if_pos rfl]
      simp
    rw [e, loL_app, loL_cons, e2, loW]
    rw [linX_app _ _ _ (lo_10 k x hx), List.append_assoc, linX_app _ _ _ (gp_10 k), List.cons_append, linX_cut, List.append_assoc, List.append_assoc, linX_app _ _ _ (gp_10 k), List.nil_append, List.cons_append, linX_cut, linX_app _ _ _ (gp_10 k), List.nil_append, ih k (fun y hy => h y (List.mem_cons_of_mem _ hy))]
theorem rd1_fld (s : RdS) {x y : List UInt8} (h : fldV x = fldV y) (hx : x.length ≤ 400) (hy : y.length ≤ 400) : rd1 s x = rd1 s y := by
  have hp : parV x = parV y := by
    unfold parV
    rw [if_neg (by omega), if_neg (by omega), h]
  unfold rd1
  rw [h, hp]
theorem rdL_blank (s : RdS) (j : Nat) (r : List (List UInt8)) : rdL s (gp j :: r) = rdL s r := by rw [rdL, if_pos (fld_gp j)]
theorem rd_lo (k : Nat) (hk : k ≤ 3) : ∀ (L : List (List UInt8)) (j : Nat) (s : RdS), j ≤ 3 → (∀ x ∈ L, x.length ≤ 12 ∧ ∀ c ∈ x, c ≠ 10) → rdL s (loW j k L) = rdL s L := by
  intro L
  induction L with
  | nil =>
    intro j s _ _
    rw [loW]
    split
    · rfl
    · rw [rdL_blank]
  | cons x L ih =>
    intro j s hj h
    obtain ⟨hl, hx⟩ := h x (by simp)
    have hf := fld_lo j k x hx
    have hln := lo_len k hk x hx
    have hr := fun s => ih k s hk (fun y hy => h y (List.mem_cons_of_mem _ hy))
    have h1 : ∀ (t : RdS) (a : List UInt8) (r : List (List UInt8)), rdL t (a :: r) = if fldV a = [] then rdL t r else if (rd1 t a).2 ≠ 0 then rd1 t a else rdL (rd1 t a).1 r := fun _ _ _ => rfl
    rw [loW, h1 s, hf, rd1_fld s hf (by rw [List.length_append, List.length_append, List.length_replicate, List.length_replicate]; omega) (by omega), rdL_blank, rdL_blank, hr, hr, h1 s x L]
theorem loT_len (k : Nat) (hk : k ≤ 3) : ∀ (L : List (List UInt8)), (∀ x ∈ L, x ≠ [] ∧ ∀ c ∈ x, c ≠ 10) → 2 * (loL (gp k) (txt L)).length ≤ 15 * (txt L).length := by
  intro L
  induction L with
  | nil => intro _; simp [txt, loL]
  | cons x L ih =>
    intro h
    obtain ⟨hne, hx⟩ := h x (by simp)
    have h1 := ih (fun y hy => h y (List.mem_cons_of_mem _ hy))
    have h2 := lo_len k hk x hx
    have h3 : 1 ≤ x.length := by
      cases x with
      | nil => exact absurd rfl hne
      | cons a r => simp
    have e : txt (x :: L) = x ++ 10 :: txt L := by simp [txt]
    have e2 : (loB (gp k) 10).length = 3 * k + 2 := by
      unfold loB
      rw [if_neg (by decide), if_pos rfl]
      simp
      omega
    rw [e, loL_app, loL_cons, List.length_append, List.length_append, e2, List.length_append, List.length_cons]
    omega
theorem wrt_ne {p : PG} (h : pr.prE p.1 p.2 = 0) : ∀ x ∈ wrt p, x ≠ [] := by
  intro x hx e
  have h1 : fldV x ≠ [] := by
    rcases List.mem_cons.1 hx with rfl | hx
    · rw [fld_mem]; simp
    · obtain ⟨l, hl, hx⟩ := List.mem_flatten.1 hx
      obtain ⟨c, hc, rfl⟩ := List.mem_map.1 hl
      rcases List.mem_cons.1 hx with rfl | hx
      · rw [fld_fun]; simp
      · obtain ⟨y, hy, rfl⟩ := List.mem_map.1 hx
        exact (par_line (pr_chk h c hc y hy)).2.1
  subst e
  exact h1 rfl
/-- blanks are nothing. -/
theorem read_loose {p : PG} (h : pr.prE p.1 p.2 = 0) (k : Nat) (hk : k ≤ 3) (hs : (textV p).length ≤ 6000) : readV (loose (gp k) (textV p)) = (p, 0) := by
  have ht : textV p = txt (wrt p) := if_pos h
  have hp := wrt_plain h
  have hl : linV (loose (gp k) (textV p)) = gp k :: loW 0 k (wrt p) := by
    unfold loose linV
    rw [ht, List.append_assoc, linX_app _ _ _ (gp_10 k), List.nil_append, List.singleton_append, linX_cut]
    exact congrArg _ (lin_lo k (wrt p) 0 hp)
  have hr : rdT (loose (gp k) (textV p)) = ((true, p.1, p.2), 0) := by
    unfold rdT
    rw [hl, rdL_blank, rd_lo k hk _ 0 _ (by omega) (fun x hx => ⟨wrt_short h x hx, hp x hx⟩), rd_wrt h]
  have hlen : (loose (gp k) (textV p)).length ≤ 60000 := by
    have h1 := loT_len k hk (wrt p) (fun x hx => ⟨wrt_ne h x hx, hp x hx⟩)
    rw [← ht] at h1
    unfold loose
    rw [List.length_append, List.length_append, List.length_replicate, List.length_singleton]
    omega
  unfold readV
  rw [if_neg (by omega), hr, if_neg (by simp), if_neg (by simp), if_neg (by rw [h]; simp)]
end Go.Proofs.YtgkfnplgldigbaaDoor.asm
namespace Go.Proofs.YtgkfnplgldigbaaDoor.asmLoose
open Go.ChangeShapes Go.WideShapes Go.ChangeAt Go.RowKit
open Go.Proofs.YtgkfnplgldigbaaDoor.st Go.Proofs.YtgkfnplgldigbaaDoor.wd Go.Proofs.YtgkfnplgldigbaaDoor.asm
open Go.Proofs.YtgkfnplgldigbaaDoor.pr (PM OP Sm)
set_option linter.unusedVariables false
set_option linter.unusedSimpArgs false
theorem take_gp (k : Nat) (T : List UInt8) (i : Nat) (hi : i < T.length) : loL (gp k) (T.take (i + 1)) = loL (gp k) (T.take i) ++ loB (gp k) (T.getD i 0) := by
  have e : T.take (i + 1) = T.take i ++ [T.getD i 0] := by
    rw [List.take_succ_eq_append_getElem hi, List.getD_eq_getElem?_getD, List.getElem?_eq_getElem hi]
    rfl
  rw [e, loL_snoc]
theorem gp_snoc (k : Nat) : gp k ++ [32] = gp (k + 1) := by
  induction k with
  | zero => rfl
  | succ k ih => rw [show gp (k + 1) = 32 :: gp k from rfl, List.cons_append, ih]; rfl
theorem loB_len (k : Nat) (hk : k ≤ 3) (c : UInt8) : (loB (gp k) c).length ≤ 11 := by
  unfold loB
  split
  · rw [List.length_append, List.length_replicate, List.length_singleton]; omega
  · split
    · simp
      omega
    · simp
theorem loL_len (k : Nat) (hk : k ≤ 3) (T : List UInt8) : (loL (gp k) T).length ≤ 11 * T.length := by
  induction T with
  | nil => simp [loL_nil]
  | cons c T ih =>
    have := loB_len k hk c
    rw [loL_cons, List.length_append, List.length_cons]
    omega
theorem loose_len (k : Nat) (hk : k ≤ 3) (T : List UInt8) : (loose (gp k) T).length ≤ 4 + 11 * T.length := by
  have := loL_len k hk T
  unfold loose
  rw [List.length_append, List.length_append, List.length_replicate, List.length_singleton]
  omega
set_option maxRecDepth 20000 in
set_option maxHeartbeats 1600000 in
theorem walk (m0 : Int) (a0 : Option Addr) (n0 c0 : Nat) (L0 : List (List pr.I4)) (a1 : Int) (w : World) (w0 : PM w (.slice a0 n0 c0) L0) (w1 : (Lit.int .u8 a1).wf = true) (hNM : ins.NM w ∧ wd.NM w) :
    Calls Tryd.prog 5 #[.agg #[.int .i64 m0, .slice a0 n0 c0], .int .u8 a1] w fun e w' => e = .returned (.bool true) ∧ Below w.heap.size w w' := by
  obtain ⟨hN, hM⟩ := hNM
  have hbb := bounds_u8 w1
  obtain ⟨bl, rfl⟩ : ∃ bl : Nat, a1 = bl := ⟨a1.toNat, by omega⟩
  obtain ⟨kk, hkk⟩ : ∃ kk, bl % 4 = kk := ⟨_, rfl⟩
  have hk3 : kk ≤ 3 := by omega
  have hmod : Int.tmod (bl : Int) 4 = (kk : Int) := by rw [← hkk]; rfl
  obtain ⟨W0, hW0⟩ : ∃ W0, w.alloc (.cells #[.int .i64 m0, .slice a0 n0 c0] 32) = W0 := ⟨_, rfl⟩
  have k0 : W0.heap[w.heap.size]? = some (.cells #[.int .i64 m0, .slice a0 n0 c0] 32 (0, 0)) := by rw [← hW0]; exact heap_new w _ _
  have b0 : Below w.heap.size w W0 := by rw [← hW0]; exact (Below.refl _ _).alloc (Nat.le_refl _) _
  have CW := Lib.hid (works06 W0 (hN.below b0) (hM.below b0))
  have HW0 := Lib.hid hW0
  have HK0 := Lib.hid k0
  have HB0 := Lib.hid b0
  have HN := Lib.hid hN
  have HM := Lib.hid hM
  have HPM := Lib.hid w0
  have HKK := Lib.hid hkk
  have CG := Lib.hid (fun w h => pr.great_v m0 a0 n0 c0 L0 w h)
  have CO := Lib.hid (fun w h hS => pr.own_v m0 a0 n0 c0 L0 w h hS)
  have CT := Lib.hid (fun a n c w h hN hM => text_v m0 a n c L0 w h hN hM)
  obtain ⟨T, hT⟩ : ∃ T, textV (m0, L0) = T := ⟨_, rfl⟩
  obtain ⟨ec, hec⟩ : ∃ e, pr.prE m0 L0 = e := ⟨_, rfl⟩
  have HRD : Hid (ec = 0 → T.length ≤ 6000 → readV (loose (gp kk) T) = ((m0, L0), 0)) := Lib.hid (by
    intro h1 h2
    rw [← hT] at h2 ⊢
    exact read_loose (p := (m0, L0)) (by rw [← h1]; exact hec) kk hk3 h2)
  rw [hT, hec] at CT
  have hTl : T.length ≤ 41821 := by rw [← hT]; exact textV_len _
  have hts := str_size T
  clear hW0 k0 b0 hN hM w0 w1 hT hec hkk
  go_enter Tryd.func5, Tryd.ntmps5
  go_wp2_with fail
  rw [HW0.out]
  refine CW.out.mono ?_
  rintro e w1 ⟨rfl, hb1⟩
  have hk1 := kb HK0.out hb1
  have HB1 := Lib.hid (tr3 HB0.out hb1)
  have x0 : w1.cell? ⟨w.heap.size, 0, none⟩ = some (.int .i64 m0) := cel hk1 0
  have x1 : w1.cell? ⟨w.heap.size, 1, none⟩ = some (.slice a0 n0 c0) := cel hk1 1
  have HK1 := Lib.hid hk1
  clear hb1 hk1 CW HK0 HB0 HW0
  go_wp2_with fail
  refine (CG.out w1 (HPM.out.below HB1.out)).mono ?_
  rintro e w2 ⟨hor, hb2⟩
  have hk2 := kb HK1.out hb2
  have HB2 := Lib.hid (tr3 HB1.out hb2)
  have z0 : w2.cell? ⟨w.heap.size, 0, none⟩ = some (.int .i64 m0) := cel hk2 0
  have z1 : w2.cell? ⟨w.heap.size, 1, none⟩ = some (.slice a0 n0 c0) := cel hk2 1
  have HK2 := Lib.hid hk2
  clear hb2 hk2 CG x0 x1 HK1 HB1
  rcases hor with rfl | ⟨rfl, hsm⟩
  · go_wp2_with fail
    go_ret
    exact ⟨rfl, HB2.out⟩
  · have HSM := Lib.hid hsm
    clear hsm
    go_wp2_with fail
    refine (CO.out w2 (HPM.out.below HB2.out) HSM.out).mono ?_
    rintro e w3 ⟨ov, rows, rfl, hop, hb3⟩
    have hpm3 := hop.pm
    obtain ⟨oa, oc, rfl, _⟩ := hpm3.form
    have HB3 := Lib.hid (tr3 HB2.out hb3)
    have HK3 := Lib.hid (kb HK2.out hb3)
    have C3 := Lib.hid (CT.out oa L0.length oc w3 hpm3 (HN.out.below HB3.out) (HM.out.below HB3.out))
    clear hop hb3 hpm3 CO CT z0 z1 HK2 HB2
    go_wp2_with fail
    refine C3.out.mono ?_
    rintro e w4 ⟨rfl, hb4⟩
    have HB4 := Lib.hid (tr3 HB3.out hb4)
    have HK4 := Lib.hid (kb HK3.out hb4)
    clear hb4 C3 HK3 HB3
    by_cases he : ec = 0
    · subst he
      by_cases h6 : 6000 < T.length
      · have h6i : (6000 : Int) < (T.length : Int) := by omega
        go_wp2_with fail
        go_ret
        exact ⟨rfl, HB4.out⟩
      · have h6i : ¬ (6000 : Int) < (T.length : Int) := by omega
        have CR := Lib.hid (fun w hN hM => read_v w (loose (gp kk) T) hN hM (by
          have := loose_len kk hk3 T
          omega))
        rw [HRD.out rfl (by omega)] at CR
        clear HRD
        go_wp2_with fail
        go_loop [7, 8] (fun gv iv => ∃ i : Nat, gv = .string ⟨(gp i).toArray⟩ ∧ iv = .int .i64 (i : Int) ∧ i ≤ kk) (fun _ iv => kk - (RowKit.intOf iv).toNat)
        case atStart => exact ⟨0, rfl, rfl, by omega⟩
        case round =>
          obtain ⟨i, rfl, rfl, hi⟩ := hrel
          by_cases hlt : i < kk
          · have hii : (i : Int) < (kk : Int) := by omega
            have hj1 := str_join (gp i) [32]
            rw [gp_snoc] at hj1
            have hgl : (gp i).length = i := List.length_replicate
            have HG2 := Lib.hid (show gp (i + 1) = gp (i + 1) from rfl)
            obtain ⟨g2, hg2⟩ : ∃ g, gp (i + 1) = g := ⟨_, rfl⟩
            have HG := Lib.hid hg2
            rw [hg2] at hj1
            obtain ⟨g1, hg1⟩ : ∃ g, gp i = g := ⟨_, rfl⟩
            rw [hg1] at hj1 hgl ⊢
            have hsz1 : ¬ 9223372036854775807 < g1.length + 1 := by omega
            clear hg2 hg1 HG2 hgl
            go_wp2_with fail
            go_round
            case rel => exact ⟨i + 1, by rw [HG.out], by go_num, by omega⟩
            case measure => first | (simp [RowKit.intOf]; done) | (simp [RowKit.intOf]; omega)
          · obtain rfl : i = kk := by omega
            have hii : ¬ (i : Int) < (i : Int) := by omega
            have hgl : (gp i).length = i := List.length_replicate
            have hj0 := str_join (gp i) [10]
            have hloo : loose (gp i) T = (gp i ++ [10]) ++ loL (gp i) T := rfl
            have HLO : Hid (∀ j, j < T.length → (loL (gp i) (T.take (j + 1)) = loL (gp i) (T.take j) ++ loB (gp i) (T.getD j 0))) := Lib.hid fun j hj => take_gp i T j hj
            have HLB : Hid (∀ c, loB (gp i) c = if c = 32 then gp i ++ [32] else if c = 10 then gp i ++ [10] ++ (gp i ++ [10]) ++ gp i else [c]) := Lib.hid fun c => rfl
            have hsml : ∀ j, (loL (gp i) (T.take j)).length ≤ 11 * j := fun j => Nat.le_trans (loL_len i hk3 (T.take j)) (by rw [List.length_take]; omega)
            have HSM2 := Lib.hid hsml
            have HLL := Lib.hid hloo
            have HLZ : Hid (loL (gp i) (T.take 0) = []) := Lib.hid rfl
            have HLT : Hid (loL (gp i) (T.take T.length) = loL (gp i) T) := Lib.hid (by rw [List.take_length])
            obtain ⟨G, hG⟩ : ∃ G, gp i = G := ⟨_, rfl⟩
            rw [hG] at hgl hj0 HLO HLB HSM2 HLL CR HLZ HLT ⊢
            have hsz0 : ¬ 9223372036854775807 < G.length + 1 := by omega
            obtain ⟨a0', ha0⟩ : ∃ a, G ++ [10] = a := ⟨_, rfl⟩
            rw [ha0] at hj0
            have HA0 : Hid (a0' = (G ++ [10]) ++ loL G (T.take 0)) := Lib.hid (by rw [HLZ.out, List.append_nil, ha0])
            have hal0 : a0'.length ≤ 4 + 11 * 0 := by rw [← ha0, List.length_append, List.length_singleton]; omega
            clear ha0 hG hsml hloo HLZ
            go_wp2_with fail
            go_loopw [9, 10] (fun tv jv wr => ∃ (j : Nat) (acc : List UInt8), tv = .string ⟨acc.toArray⟩ ∧ jv = .int .i64 (j : Int) ∧ j ≤ T.length ∧ acc.length ≤ 4 + 11 * j ∧ Hid (acc = (G ++ [10]) ++ loL G (T.take j)) ∧ wr = w4) (fun _ jv _ => T.length - (RowKit.intOf jv).toNat)
            case atStart => exact ⟨0, a0', rfl, rfl, by omega, hal0, HA0, rfl⟩
            case round =>
              clear hal0 HA0 hj0 hsz0
              obtain ⟨j, acc, rfl, rfl, hj, hal, HA, rfl⟩ := hrel
              by_cases hjl : j < T.length
              · have hji : (j : Int) < (T.length : Int) := by omega
                have hjd : decide ((j : Int) < (T.length : Int)) = true := decide_eq_true hji
                have hat : (⟨T.toArray⟩ : ByteArray)[j]'(by rw [hts]; exact hjl) = T.getD j 0 := ins.str_at T j _
                have hcut := str_cut T j hjl
                have hnx := HLO.out j hjl
                have hlb := HLB.out (T.getD j 0)
                obtain ⟨c, hc⟩ : ∃ c, T.getD j 0 = c := ⟨_, rfl⟩
                rw [hc] at hat hcut hnx hlb
                obtain ⟨cn, hcn⟩ : ∃ n, c.toNat = n := ⟨_, rfl⟩
                have hG3 : G.length ≤ 3 := by omega
                clear hc
                by_cases h32 : c = 32
                · have hc1 : ((cn : Int) == 32) = true := by
                    have : cn = 32 := by rw [← hcn, h32]; rfl
                    rw [beq_iff_eq]; omega
                  rw [if_pos h32] at hlb
                  clear hcut h32
                  have hj1 := str_join acc G
                  have hz1 : ¬ 9223372036854775807 < acc.length + G.length := by omega
                  obtain ⟨b1, hb1⟩ : ∃ b, acc ++ G = b := ⟨_, rfl⟩
                  have hbl1 : b1.length = acc.length + G.length := by rw [← hb1]; simp
                  rw [hb1] at hj1
                  have hj2 := str_join b1 [32]
                  have hz2 : ¬ 9223372036854775807 < b1.length + 1 := by omega
                  obtain ⟨b2, hb2⟩ : ∃ b, b1 ++ [32] = b := ⟨_, rfl⟩
                  have hbl2 : b2.length = b1.length + 1 := by rw [← hb2]; simp
                  rw [hb2] at hj2
                  have HA2 : Hid (b2 = (G ++ [10]) ++ loL G (T.take (j + 1))) := Lib.hid (by
                    rw [hnx, hlb, ← hb2, ← hb1, HA.out]
                    simp)
                  have hal2 : b2.length ≤ 4 + 11 * (j + 1) := by omega
                  clear hb1 hbl1 hb2 hbl2 HA hnx hlb
                  go_wp2_with fail
                  go_roundw
                  case rel => exact ⟨j + 1, b2, rfl, by go_num, by omega, hal2, HA2, trivial⟩
                  case measure => first | (simp [RowKit.intOf]; done) | (simp [RowKit.intOf]; omega)
                · have hc1 : ((cn : Int) == 32) = false := by
                    have : cn ≠ 32 := fun h => h32 (UInt8.toNat_inj.1 (by rw [hcn, h]; rfl))
                    rw [beq_eq_false_iff_ne]; omega
                  rw [if_neg h32] at hlb
                  by_cases h10 : c = 10
                  · have hc2 : ((cn : Int) == 10) = true := by
                      have : cn = 10 := by rw [← hcn, h10]; rfl
                      rw [beq_iff_eq]; omega
                    rw [if_pos h10] at hlb
                    clear hcut h32 h10
                    have hj1 := str_join acc G
                    have hz1 : ¬ 9223372036854775807 < acc.length + G.length := by omega
                    obtain ⟨b1, hb1⟩ : ∃ b, acc ++ G = b := ⟨_, rfl⟩
                    have hbl1 : b1.length = acc.length + G.length := by rw [← hb1]; simp
                    rw [hb1] at hj1
                    have hj2 := str_join b1 [10]
                    have hz2 : ¬ 9223372036854775807 < b1.length + 1 := by omega
                    obtain ⟨b2, hb2⟩ : ∃ b, b1 ++ [10] = b := ⟨_, rfl⟩
                    have hbl2 : b2.length = b1.length + 1 := by rw [← hb2]; simp
                    rw [hb2] at hj2
                    have hj3 := str_join b2 G
                    have hz3 : ¬ 9223372036854775807 < b2.length + G.length := by omega
                    obtain ⟨b3, hb3⟩ : ∃ b, b2 ++ G = b := ⟨_, rfl⟩
                    have hbl3 : b3.length = b2.length + G.length := by rw [← hb3]; simp
                    rw [hb3] at hj3
                    have hj4 := str_join b3 [10]
                    have hz4 : ¬ 9223372036854775807 < b3.length + 1 := by omega
                    obtain ⟨b4, hb4⟩ : ∃ b, b3 ++ [10] = b := ⟨_, rfl⟩
                    have hbl4 : b4.length = b3.length + 1 := by rw [← hb4]; simp
                    rw [hb4] at hj4
                    have hj5 := str_join b4 G
                    have hz5 : ¬ 9223372036854775807 < b4.length + G.length := by omega
                    obtain ⟨b5, hb5⟩ : ∃ b, b4 ++ G = b := ⟨_, rfl⟩
                    have hbl5 : b5.length = b4.length + G.length := by rw [← hb5]; simp
                    rw [hb5] at hj5
                    have HA2 : Hid (b5 = (G ++ [10]) ++ loL G (T.take (j + 1))) := Lib.hid (by
                      rw [hnx, hlb, ← hb5, ← hb4, ← hb3, ← hb2, ← hb1, HA.out]
                      simp)
                    have hal2 : b5.length ≤ 4 + 11 * (j + 1) := by omega
                    clear hb1 hbl1 hb2 hbl2 hb3 hbl3 hb4 hbl4 hb5 hbl5 HA hnx hlb
                    go_wp2_with fail
                    go_roundw
                    case rel => exact ⟨j + 1, b5, rfl, by go_num, by omega, hal2, HA2, trivial⟩
                    case measure => first | (simp [RowKit.intOf]; done) | (simp [RowKit.intOf]; omega)
                  · have hc2 : ((cn : Int) == 10) = false := by
                      have : cn ≠ 10 := fun h => h10 (UInt8.toNat_inj.1 (by rw [hcn, h]; rfl))
                      rw [beq_eq_false_iff_ne]; omega
                    rw [if_neg h10] at hlb
                    have hj1i : (j : Int) + 1 ≤ (T.length : Int) := by omega
                    clear h32 h10
                    have hj1 := str_join acc [c]
                    have hz1 : ¬ 9223372036854775807 < acc.length + 1 := by omega
                    obtain ⟨b1, hb1⟩ : ∃ b, acc ++ [c] = b := ⟨_, rfl⟩
                    have hbl1 : b1.length = acc.length + 1 := by rw [← hb1]; simp
                    rw [hb1] at hj1
                    have HA2 : Hid (b1 = (G ++ [10]) ++ loL G (T.take (j + 1))) := Lib.hid (by
                      rw [hnx, hlb, ← hb1, HA.out]
                      simp)
                    have hal2 : b1.length ≤ 4 + 11 * (j + 1) := by omega
                    clear hb1 hbl1 HA hnx hlb
                    go_wp2_with fail
                    go_roundw
                    case rel => exact ⟨j + 1, b1, rfl, by go_num, by omega, hal2, HA2, trivial⟩
                    case measure => first | (simp [RowKit.intOf]; done) | (simp [RowKit.intOf]; omega)
              · obtain rfl : j = T.length := by omega
                have hji : ¬ ((T.length : Nat) : Int) < ((T.length : Nat) : Int) := by omega
                have hlo : acc = loose G T := by rw [HA.out, HLT.out, HLL.out]
                subst hlo
                have CRW := Lib.hid (CR.out wr (HN.out.below HB4.out) (HM.out.below HB4.out))
                clear HA HLT HLL CR HLO HLB HSM2
                go_wp2_with fail
                refine CRW.out.mono ?_
                rintro e w5 ⟨x, rfl, ⟨v, rfl, hpm⟩, hb5⟩
                dsimp only at hpm ⊢
                obtain ⟨va, vc, rfl, _⟩ := hpm.form
                obtain ⟨W5, hW5⟩ : ∃ W5, w5.alloc (.cells #[.int .i64 m0, .slice va L0.length vc] 32) = W5 := ⟨_, rfl⟩
                have k5 : W5.heap[w5.heap.size]? = some (.cells #[.int .i64 m0, .slice va L0.length vc] 32 (0, 0)) := by rw [← hW5]; exact heap_new w5 _ _
                have b5 : Below w5.heap.size w5 W5 := by rw [← hW5]; exact (Below.refl _ _).alloc (Nat.le_refl _) _
                have HB5 := Lib.hid (tr3 HB4.out (tr3 hb5 b5))
                have hk5 := kb HK4.out (tr3 hb5 b5)
                have C6 := pr.same_v m0 a0 va n0 L0.length c0 vc L0 W5 (HPM.out.below HB5.out) (hpm.below b5)
                have x0 : W5.cell? ⟨w.heap.size, 0, none⟩ = some (.int .i64 m0) := cel hk5 0
                have x1 : W5.cell? ⟨w.heap.size, 1, none⟩ = some (.slice a0 n0 c0) := cel hk5 1
                have HBW := Lib.hid (fun (w' : World) (hb : Below W5.heap.size W5 w') => tr3 HB5.out hb)
                rw [← hW5] at C6 x0 x1 HBW
                replace C6 := Lib.hid C6
                clear hb5 k5 b5 hW5 hpm hk5 CRW HB5
                go_wp2_with (go_at_call 14; (refine C6.out.mono ?_); rintro e w6 ⟨rfl, hb6⟩)
                go_ret
                exact ⟨rfl, HBW.out _ hb6⟩
    · have hcb : ((ec : Int) != 0) = true := by rw [bne, beq_eq_false_iff_ne.2 he]; rfl
      clear HRD
      go_wp2_with fail
      go_ret
      exact ⟨rfl, HB4.out⟩
end Go.Proofs.YtgkfnplgldigbaaDoor.asmLoose
