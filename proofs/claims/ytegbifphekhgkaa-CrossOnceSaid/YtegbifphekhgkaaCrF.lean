/- Both sides in memory, one access at a time (layer 19). -/
import Derived.Test.YtegbifphekhgkaaCrE
import Derived.Test.YtegbifphekhgkaaPlain
namespace Go.Proofs.Ytegbifphekhgkaa
open Go.ChangeShapes Go.WideShapes Go.ChangeAt Go.RowKit
set_option linter.unusedVariables false
set_option linter.unusedSimpArgs false
def xsC (c t : Int) (W : Nat) : List Int := (((List.replicate 61 (0 : Int)).set 15 2).set 9 c).set 14 (if W = 1 then t else 0)
theorem xsC_len (c t : Int) (W : Nat) : (xsC c t W).length = 61 := by simp [xsC]
theorem xsC_9 (c t : Int) (W : Nat) : (xsC c t W).getD 9 0 = c := rfl
theorem xsC_14 (c t : Int) (W : Nat) : (xsC c t W).getD 14 0 = if W = 1 then t else 0 := rfl
theorem xsC_15 (c t : Int) (W : Nat) : (xsC c t W).getD 15 0 = 2 := rfl
theorem xsC_s9 (c c' t : Int) (W : Nat) : (xsC c t W).set 9 c' = xsC c' t W := rfl
theorem xsC_s0 (c t : Int) (W : Nat) : (xsC c t W).set 14 0 = xsC c t 0 := rfl
theorem xsC_s1 (c t : Int) (W : Nat) : (xsC c t W).set 14 t = xsC c t 1 := rfl
def Ff (w0 : World) (S g A B X : Nat) : Prop := X ≠ g ∧ X ≠ S ∧ X ≠ A ∧ X ≠ B ∧ w0.heap.size ≤ X
def aLk (pa R : Nat) : Option Addr := if pa = 0 then none else some ⟨R, 0, none⟩
def bLk (pb P : Nat) : Option Addr := if 1 ≤ pb ∧ pb ≤ 3 then some ⟨P, 0, none⟩ else none
structure CW (w0 w : World) (S g A B : Nat) (y : Option Addr) (len cap : Nat) (st : Int) (Rb : Nat) (q : Q) (R P : Nat) (fr : Int) : Prop where
  j : J w0 w S g (xsC q.come (tOf 9 1 st) q.W)
  a : AhAt w A y len cap (q.at_ : Int) q.come (aLk q.pa R) q.got
  b : BhAt w B st (decide (q.pb ≠ 0)) (bLk q.pb P) q.goes
  r : q.pa ≠ 0 → RightAt w R 1 9 q.come ((q.pa : Int) - 1) (if q.pa = 1 then 0 else st) fr false ∧ Ff w0 S g A B R
  p : 1 ≤ q.pb ∧ q.pb ≤ 3 → ParkAt w P 1 9 1 st ((q.pb : Int) - 1) false ∧ Ff w0 S g A B P ∧ (q.pa ≠ 0 → R ≠ P)
  ag : A ≠ g
  aS : A ≠ S
  a0 : w0.heap.size ≤ A
  bg : B ≠ g
  bS : B ≠ S
  b0 : w0.heap.size ≤ B
  ab : A ≠ B
  x : RCAt w Rb
  xg : Rb ≠ g
  xa : Rb ≠ A
  xb : Rb ≠ B
  xr : q.pa ≠ 0 → R ≠ Rb
  xp : 1 ≤ q.pb ∧ q.pb ≤ 3 → P ≠ Rb
theorem bkeepC {w w' : World} {B : Nat} {o : Obj} (h : w.heap[B]? = some o) (hb : Below w.heap.size w w') : w'.heap[B]? = some o := (hb.block B (lt_of_heap h)).trans h
theorem CW.lt {w0 w : World} {S g A B : Nat} {y : Option Addr} {len cap : Nat} {st : Int} {Rb : Nat} {q : Q} {R P : Nat} {fr : Int} (h : CW w0 w S g A B y len cap st Rb q R P fr) : S < w.heap.size ∧ g < w.heap.size ∧ A < w.heap.size ∧ B < w.heap.size ∧ w0.heap.size ≤ w.heap.size :=
  ⟨h.j.1.facts.2.2.2.2.1, h.j.1.facts.2.2.2.2.2, lt_of_heap h.a, lt_of_heap h.b, h.j.2.1.size⟩
theorem CW.new {w0 w : World} {S g A B : Nat} {y : Option Addr} {len cap : Nat} {st : Int} {Rb : Nat} {q : Q} {R P : Nat} {fr : Int} (h : CW w0 w S g A B y len cap st Rb q R P fr) {X : Nat} (hX : w.heap.size ≤ X) : Ff w0 S g A B X := by
  have := h.lt
  refine ⟨?_, ?_, ?_, ?_, ?_⟩ <;> omega
theorem CW.below {w0 w w' : World} {S g A B : Nat} {y : Option Addr} {len cap : Nat} {st : Int} {Rb : Nat} {q : Q} {R P : Nat} {fr : Int} (h : CW w0 w S g A B y len cap st Rb q R P fr) (hb : Below w.heap.size w w') : CW w0 w' S g A B y len cap st Rb q R P fr :=
  ⟨h.j.below' hb, h.a.below hb, h.b.below hb, fun e => ⟨(hb.block _ (lt_of_heap (h.r e).1)).trans (h.r e).1, (h.r e).2⟩, fun e => ⟨(hb.block _ (lt_of_heap (h.p e).1)).trans (h.p e).1, (h.p e).2⟩, h.ag, h.aS, h.a0, h.bg, h.bS, h.b0, h.ab, bkeepC h.x hb, h.xg, h.xa, h.xb, h.xr, h.xp⟩
/-- Side a did something: its own object, its look, and the words. -/
theorem CW.sideA {w0 w w' : World} {S g A B : Nat} {y : Option Addr} {len cap : Nat} {st : Int} {Rb : Nat} {q q' : Q} {R P R' : Nat} {fr fr' : Int} (h : CW w0 w S g A B y len cap st Rb q R P fr)
    (hj : J w0 w' S g (xsC q'.come (tOf 9 1 st) q'.W)) (ha : AhAt w' A y len cap (q'.at_ : Int) q'.come (aLk q'.pa R') q'.got) (hk : Keep3 g A R w w') (hpb : q'.pb = q.pb) (hgo : q'.goes = q.goes) (hq : q.pa ≠ 0 ∨ Keep2 g A w w')
    (hr : q'.pa ≠ 0 → RightAt w' R' 1 9 q'.come ((q'.pa : Int) - 1) (if q'.pa = 1 then 0 else st) fr' false ∧ (R' = R ∧ q.pa ≠ 0 ∨ w.heap.size ≤ R')) : CW w0 w' S g A B y len cap st Rb q' R' P fr' := by
  have hBR : q.pa ≠ 0 → B ≠ R := fun e => fun e2 => (h.r e).2.2.2.2.1 e2.symm
  have keepB : w'.heap[B]? = w.heap[B]? := by
    rcases hq with hq | hq
    · exact hk.2 B h.lt.2.2.2.1 h.bg (fun e => h.ab e.symm) (hBR hq)
    · exact hq.2 B h.lt.2.2.2.1 h.bg (fun e => h.ab e.symm)
  have hXl := lt_of_heap h.x
  have keepX : w'.heap[Rb]? = w.heap[Rb]? := by
    rcases hq with hq | hq
    · exact hk.2 Rb hXl h.xg h.xa (fun e => h.xr hq e.symm)
    · exact hq.2 Rb hXl h.xg h.xa
  refine ⟨hj, ha, ?_, ?_, ?_, h.ag, h.aS, h.a0, h.bg, h.bS, h.b0, h.ab, keepX.trans h.x, h.xg, h.xa, h.xb, fun e => ?_, by rw [hpb]; exact h.xp⟩
  · rw [hpb, hgo]; exact keepB.trans h.b
  · intro e
    refine ⟨(hr e).1, ?_⟩
    rcases (hr e).2 with ⟨rfl, e2⟩ | e2
    · exact (h.r e2).2
    · exact h.new e2
  · rw [hpb]
    intro e
    obtain ⟨h1, h2, h3⟩ := h.p e
    have hPl := lt_of_heap h1
    have keepP : w'.heap[P]? = w.heap[P]? := by
      rcases hq with hq | hq
      · exact hk.2 P hPl h2.1 h2.2.2.1 (fun e2 => h3 hq e2.symm)
      · exact hq.2 P hPl h2.1 h2.2.2.1
    refine ⟨keepP.trans h1, h2, fun e2 => ?_⟩
    rcases (hr e2).2 with ⟨rfl, e3⟩ | e3
    · exact h3 e3
    · omega
  · rcases (hr e).2 with ⟨rfl, e2⟩ | e2
    · exact h.xr e2
    · omega
/-- Side b did something. -/
theorem CW.sideB {w0 w w' : World} {S g A B : Nat} {y : Option Addr} {len cap : Nat} {st : Int} {Rb : Nat} {q q' : Q} {R P P' : Nat} {fr : Int} (h : CW w0 w S g A B y len cap st Rb q R P fr)
    (hj : J w0 w' S g (xsC q'.come (tOf 9 1 st) q'.W)) (hb : BhAt w' B st (decide (q'.pb ≠ 0)) (bLk q'.pb P') q'.goes) (hk : Keep3 g B P w w') (hpa : q'.pa = q.pa) (hgo : q'.got = q.got) (hco : q'.come = q.come) (hat : q'.at_ = q.at_) (hq : (1 ≤ q.pb ∧ q.pb ≤ 3) ∨ Keep2 g B w w')
    (hp : 1 ≤ q'.pb ∧ q'.pb ≤ 3 → ParkAt w' P' 1 9 1 st ((q'.pb : Int) - 1) false ∧ (P' = P ∧ (1 ≤ q.pb ∧ q.pb ≤ 3) ∨ w.heap.size ≤ P')) : CW w0 w' S g A B y len cap st Rb q' R P' fr := by
  have hAP : (1 ≤ q.pb ∧ q.pb ≤ 3) → A ≠ P := fun e => fun e2 => (h.p e).2.1.2.2.1 e2.symm
  have keepA : w'.heap[A]? = w.heap[A]? := by
    rcases hq with hq | hq
    · exact hk.2 A h.lt.2.2.1 h.ag h.ab (hAP hq)
    · exact hq.2 A h.lt.2.2.1 h.ag h.ab
  have hXl := lt_of_heap h.x
  have keepX : w'.heap[Rb]? = w.heap[Rb]? := by
    rcases hq with hq | hq
    · exact hk.2 Rb hXl h.xg h.xb (fun e => h.xp hq e.symm)
    · exact hq.2 Rb hXl h.xg h.xb
  refine ⟨hj, ?_, hb, ?_, ?_, h.ag, h.aS, h.a0, h.bg, h.bS, h.b0, h.ab, keepX.trans h.x, h.xg, h.xa, h.xb, by rw [hpa]; exact h.xr, fun e => ?_⟩
  · rw [hpa, hgo, hco, hat]; exact keepA.trans h.a
  · rw [hpa, hco]
    intro e
    obtain ⟨h1, h2⟩ := h.r e
    have hRl := lt_of_heap h1
    have keepR : w'.heap[R]? = w.heap[R]? := by
      rcases hq with hq | hq
      · exact hk.2 R hRl h2.1 h2.2.2.2.1 ((h.p hq).2.2 e)
      · exact hq.2 R hRl h2.1 h2.2.2.2.1
    exact ⟨keepR.trans h1, h2⟩
  · intro e
    refine ⟨(hp e).1, ?_, ?_⟩
    · rcases (hp e).2 with ⟨rfl, e2⟩ | e2
      · exact (h.p e2).2.1
      · exact h.new e2
    · rw [hpa]
      intro e3
      rcases (hp e).2 with ⟨rfl, e2⟩ | e2
      · exact (h.p e2).2.2 e3
      · have := lt_of_heap (h.r e3).1
        omega
  · rcases (hp e).2 with ⟨rfl, e2⟩ | e2
    · exact h.xp e2
    · omega
def Stages (w : World) (y : Option Addr) (len : Nat) : Prop := ∀ k, k < len → ∃ b off z, y = some ⟨b, off, none⟩ ∧ b < w.heap.size ∧ w.cell? ⟨b, off + k, none⟩ = some (.int .u8 z) ∧ 0 ≤ z ∧ z ≤ 255
def APost (w0 : World) (S g A B : Nat) (y : Option Addr) (len cap : Nat) (st : Int) (Rb : Nat) (q : Q) (e : Ending) (w' : World) : Prop :=
  e = .returned (.tuple #[]) ∧ ∃ q' R P fr, CW w0 w' S g A B y len cap st Rb q' R P fr ∧ Inv len st q' ∧ Less (psi len q') (psi len q) ∧ q'.pb = q.pb
def BPost (w0 : World) (S g A B : Nat) (y : Option Addr) (len cap : Nat) (st : Int) (Rb : Nat) (q : Q) (e : Ending) (w' : World) : Prop :=
  e = .returned (.tuple #[]) ∧ ∃ q' R P fr, CW w0 w' S g A B y len cap st Rb q' R P fr ∧ Inv len st q' ∧ psi len q' ≤ psi len q ∧ LessB q' q
theorem tok_ne (st : Int) (h0 : 0 ≤ st) (h1 : st ≤ 59) : (0 : Int) ≠ tOf 9 1 st := by
  rw [(tPart_loop 9 1 st (by omega) (by omega) (by omega) (by omega) (by omega) (by omega)).1]; omega
theorem may_yes (st c : Int) (h0 : 0 ≤ st) (h1 : st ≤ 59) (hc : st < c) : tNextB (tOf 9 1 st) c = true ∧ tPart (tOf 9 1 st) 1 = st := by
  obtain ⟨_, _, _, e, e2⟩ := tPart_loop 9 1 st (by omega) (by omega) (by omega) (by omega) (by omega) (by omega)
  refine ⟨?_, e⟩
  unfold tNextB
  rw [e2, e]; simp; omega
theorem may_no (st c : Int) (W : Nat) (h0 : 0 ≤ st) (h1 : st ≤ 59) (hc : ¬ (W = 1 ∧ st < c)) : (tNextB (if W = 1 then tOf 9 1 st else 0) c && ((if W = 1 then tOf 9 1 st else 0) == tOf 9 1 (tPart (if W = 1 then tOf 9 1 st else 0) 1))) = false := by
  by_cases hw : W = 1
  · rw [if_pos hw]
    obtain ⟨_, _, _, e, e2⟩ := tPart_loop 9 1 st (by omega) (by omega) (by omega) (by omega) (by omega) (by omega)
    unfold tNextB
    rw [e]
    have : ¬ st < c := fun e => hc ⟨hw, e⟩
    simp [this]
  · rw [if_neg hw]
    unfold tNextB
    have : tIs 0 = false := tIs_no (by omega)
    rw [this]; rfl
theorem a_step (S g A B : Nat) (y : Option Addr) (len cap : Nat) (st : Int) (Rb : Nat) (q : Q) (R P : Nat) (fr : Int) (w0 w : World) (h0 : 0 ≤ st) (h1 : st ≤ 59) (hl : len ≤ 60) (hy : Stages w0 y len) (hI : Inv len st q) (h : CW w0 w S g A B y len cap st Rb q R P fr) :
    Calls Try.prog 44 #[.pointer (some ⟨A, 0, none⟩), .pointer (some ⟨S, 0, none⟩), .agg #[.int .i64 1, .int .i64 3, .int .i64 3, .int .i64 3, .int .i64 1, .int .i64 9]] w (APost w0 S g A B y len cap st Rb q) := by
  have hx61 := xsC_len q.come (tOf 9 1 st) q.W
  have hIu := hI
  unfold Inv at hIu
  have ha := h.a
  have hpa : q.pa = 0 ∨ q.pa = 1 ∨ q.pa = 2 ∨ q.pa = 3 := by omega
  rcases hpa with e | e | e | e
  · rw [show aLk q.pa R = none by simp [aLk, e]] at ha
    by_cases hn : q.at_ ≤ len
    · by_cases hlt : q.at_ < len
      · obtain ⟨b, off, z, rfl, hb, hz, z0, z1⟩ := hy q.at_ hlt
        have hz' : w.cell? ⟨b, off + q.at_, none⟩ = some (.int .u8 z) := (h.j.2.1.cell (p := ⟨b, off + q.at_, none⟩) hb).trans hz
        refine (a_go_on S g A _ _ len cap _ q.come q.got w0 w h.j ha (Lib.hid h.ag) (Lib.hid h.aS) (Lib.hid h.a0) (by omega) hl (by omega) b off q.at_ rfl z (z.tmod 4) (Lib.hid rfl) hz' (Lib.hid (by have := h.a0; omega)) (Lib.hid (by have := h.j.2.2; omega)) z0 z1 (Lib.hid rfl) (by rw [Int.tmod_eq_emod_of_nonneg z0]; omega) (by rw [Int.tmod_eq_emod_of_nonneg z0]; omega) (by omega) (by omega)).mono ?_
        rintro e2 w' ⟨he, hj, R', hA, hR, hRs, hk⟩
        have I := inv_go len st q 1048575 h0 h1 hI e (.inl ⟨hlt, rfl⟩)
        refine ⟨he, _, R', P, 0, h.sideA (q' := { q with at_ := q.at_ + 1, come := 1048575, pa := 1 }) (by rw [xsC_s9] at hj; exact hj) ?_ (hk.a3 R) rfl rfl (.inr hk) (fun _ => ⟨?_, .inr hRs⟩), I.1, .inl I.2, rfl⟩
        · simpa [aLk] using hA
        · simpa using hR
      · refine (a_go_past S g A _ y len cap _ q.come q.got w0 w h.j ha (Lib.hid h.ag) (Lib.hid h.aS) (Lib.hid h.a0) (by omega) hl (by omega) (by omega) (by omega)).mono ?_
        rintro e2 w' ⟨he, hj, R', hA, hR, hRs, hk⟩
        have I := inv_go len st q 1048576 h0 h1 hI e (.inr ⟨by omega, rfl⟩)
        refine ⟨he, _, R', P, 0, h.sideA (q' := { q with at_ := q.at_ + 1, come := 1048576, pa := 1 }) (by rw [xsC_s9] at hj; exact hj) ?_ (hk.a3 R) rfl rfl (.inr hk) (fun _ => ⟨?_, .inr hRs⟩), I.1, .inl I.2, rfl⟩
        · simpa [aLk] using hA
        · simpa using hR
    · refine (a_done S g A _ y len cap _ q.come q.got w0 w h.j ha (by omega)).mono ?_
      rintro e2 w' ⟨he, hb⟩
      refine ⟨he, q, R, P, fr, h.below hb, hI, ?_, rfl⟩
      have hp : psi len q = 0 := by
        unfold psi
        have hn' : ¬ q.at_ ≤ len := hn
        simp [e, hn']
        omega
      exact .inr ⟨hp, hp⟩
  · have hne : q.pa ≠ 0 := by omega
    obtain ⟨hR, hf⟩ := h.r hne
    rw [show aLk q.pa R = some ⟨R, 0, none⟩ by simp [aLk, e]] at ha
    simp only [e, if_true, Int.natCast_one, Int.sub_self] at hR
    have hR : RightAt w R 1 9 q.come 0 0 fr false := by simpa using hR
    by_cases hc : q.W = 1 ∧ st < q.come
    · have M := may_yes st q.come h0 h1 hc.2
      have C : RStep w0 w S g R (xsC q.come (tOf 9 1 st) q.W) (xsC q.come (tOf 9 1 st) q.W) q.come 1 st false false := by
        intro w1 hb hj
        refine (right_look_yes S g R 14 _ 1 9 7 q.come (tOf 9 1 st) 0 fr false w0 w1 hj ((hb.block _ (lt_of_heap hR)).trans hR) (Lib.hid hf.1) (Lib.hid hf.2.1) (Lib.hid hf.2.2.2.2) (by decide) (by decide) (Lib.hid (by decide)) (Lib.hid (by decide)) (by omega) (by omega) (Lib.hid (by decide)) st (Lib.hid (by rw [xsC_14, if_pos hc.1])) (Lib.hid M.1) (Lib.hid rfl) (Lib.hid M.2)).mono ?_
        rintro e2 w' ⟨he, h2, h3, h4⟩
        exact ⟨he, h2, ⟨_, h3⟩, h4⟩
      refine (a_run S g A R _ _ y len cap _ _ _ _ _ _ w0 w h.j ha (Lib.hid h.ag) (Lib.hid (fun e => hf.2.2.1 e.symm)) C).mono ?_
      rintro e2 w' ⟨he, hj, hA, ⟨fr', hR'⟩, hk⟩
      have I := inv_1y len st q h0 h1 hI e hc.1 hc.2
      refine ⟨he, _, R, P, fr', h.sideA (q' := { q with pa := 2 }) hj ?_ hk rfl rfl (.inl hne) (fun _ => ⟨?_, .inl ⟨rfl, hne⟩⟩), I.1, .inl I.2, rfl⟩
      · simpa [aLk] using hA
      · simpa using hR'
    · have M := may_no st q.come q.W h0 h1 hc
      have C : RStep w0 w S g R (xsC q.come (tOf 9 1 st) q.W) (xsC q.come (tOf 9 1 st) q.W) q.come 3 0 true false := by
        intro w1 hb hj
        refine (right_look_no S g R 14 _ 1 9 7 q.come _ 0 fr false w0 w1 hj ((hb.block _ (lt_of_heap hR)).trans hR) (Lib.hid hf.1) (Lib.hid hf.2.1) (Lib.hid hf.2.2.2.2) (by decide) (by decide) (Lib.hid (by decide)) (Lib.hid (by decide)) (by omega) (by omega) (Lib.hid (by decide)) (Lib.hid (xsC_14 _ _ _)) (Lib.hid M)).mono ?_
        rintro e2 w' ⟨he, h2, h3, h4⟩
        exact ⟨he, h2, ⟨_, h3⟩, h4⟩
      refine (a_end false S g A R _ _ y len cap _ _ _ _ _ _ w0 w h.j ha (Lib.hid h.ag) (Lib.hid (fun e => hf.2.2.1 e.symm)) (Lib.hid h.aS) (Lib.hid h.a0) (by omega) (by omega) C).mono ?_
      rintro e2 w' ⟨he, hj, hA, hk⟩
      have I := inv_1n len st q h0 h1 hI e hc
      refine ⟨he, _, R, P, fr, h.sideA (q' := { q with pa := 0 }) hj ?_ hk rfl rfl (.inl hne) (fun e => absurd rfl e), I.1, .inl I.2, rfl⟩
      simpa [aLk] using hA
  · have hne : q.pa ≠ 0 := by omega
    obtain ⟨hR, hf⟩ := h.r hne
    rw [show aLk q.pa R = some ⟨R, 0, none⟩ by simp [aLk, e]] at ha
    have hR : RightAt w R 1 9 q.come 1 st fr false := by simpa [e] using hR
    by_cases hc : q.W = 1
    · have C : RStep w0 w S g R (xsC q.come (tOf 9 1 st) q.W) (xsC q.come (tOf 9 1 st) 0) q.come 2 st false false := by
        intro w1 hb hj
        refine (right_free_yes S g R 14 _ 1 9 7 q.come st fr false w0 w1 hj ((hb.block _ (lt_of_heap hR)).trans hR) (Lib.hid hf.1) (Lib.hid hf.2.1) (Lib.hid hf.2.2.2.2) (by decide) (by decide) (Lib.hid (by decide)) (Lib.hid (by decide)) (by omega) (by omega) (Lib.hid (by decide)) (Lib.hid (by rw [xsC_14, if_pos hc]))).mono ?_
        rintro e2 w' ⟨he, h2, h3, h4⟩
        exact ⟨he, h2, ⟨_, h3⟩, h4⟩
      refine (a_run S g A R _ _ y len cap _ _ _ _ _ _ w0 w h.j ha (Lib.hid h.ag) (Lib.hid (fun e => hf.2.2.1 e.symm)) C).mono ?_
      rintro e2 w' ⟨he, hj, hA, ⟨fr', hR'⟩, hk⟩
      have I := inv_2y len st q h0 h1 hI e hc
      refine ⟨he, _, R, P, fr', h.sideA (q' := { q with pa := 3, W := 0 }) hj ?_ hk rfl rfl (.inl hne) (fun _ => ⟨?_, .inl ⟨rfl, hne⟩⟩), I.1, .inl I.2, rfl⟩
      · simpa [aLk] using hA
      · simpa using hR'
    · have hW0 : q.W = 0 := by omega
      have C : RStep w0 w S g R (xsC q.come (tOf 9 1 st) q.W) (xsC q.come (tOf 9 1 st) q.W) q.come 3 st true false := by
        intro w1 hb hj
        refine (right_free_no S g R 14 _ 1 9 7 q.come st fr false w0 w1 hj ((hb.block _ (lt_of_heap hR)).trans hR) (Lib.hid hf.1) (Lib.hid hf.2.1) (Lib.hid hf.2.2.2.2) (by decide) (by decide) (Lib.hid (by decide)) (Lib.hid (by decide)) (by omega) (by omega) (Lib.hid (by decide)) 0 (Lib.hid (by rw [xsC_14, if_neg hc])) (Lib.hid (tok_ne st h0 h1))).mono ?_
        rintro e2 w' ⟨he, h2, h3, h4⟩
        exact ⟨he, h2, ⟨_, h3⟩, h4⟩
      refine (a_end false S g A R _ _ y len cap _ _ _ _ _ _ w0 w h.j ha (Lib.hid h.ag) (Lib.hid (fun e => hf.2.2.1 e.symm)) (Lib.hid h.aS) (Lib.hid h.a0) (by omega) (by omega) C).mono ?_
      rintro e2 w' ⟨he, hj, hA, hk⟩
      have I := inv_2n len st q h0 h1 hI e hW0
      refine ⟨he, _, R, P, fr, h.sideA (q' := { q with pa := 0 }) hj ?_ hk rfl rfl (.inl hne) (fun e => absurd rfl e), I.1, .inl I.2, rfl⟩
      simpa [aLk] using hA
  · have hne : q.pa ≠ 0 := by omega
    obtain ⟨hR, hf⟩ := h.r hne
    rw [show aLk q.pa R = some ⟨R, 0, none⟩ by simp [aLk, e]] at ha
    have hR : RightAt w R 1 9 q.come 2 st fr false := by simpa [e] using hR
    have C : RStep w0 w S g R (xsC q.come (tOf 9 1 st) q.W) (xsC q.come (tOf 9 1 st) q.W) q.come 3 st true true := by
      intro w1 hb hj
      refine (right_take S g R 15 _ 1 9 7 q.come st fr 2 false w0 w1 hj ((hb.block _ (lt_of_heap hR)).trans hR) (Lib.hid hf.1) (Lib.hid hf.2.1) (Lib.hid hf.2.2.2.2) (by decide) (by decide) (Lib.hid (by decide)) (Lib.hid (by decide)) (by omega) (by omega) (Lib.hid (by decide)) (Lib.hid (xsC_15 _ _ _))).mono ?_
      rintro e2 w' ⟨he, h2, h3, h4⟩
      exact ⟨he, h2, ⟨_, h3⟩, h4⟩
    refine (a_end true S g A R _ _ y len cap _ _ _ _ _ _ w0 w h.j ha (Lib.hid h.ag) (Lib.hid (fun e => hf.2.2.1 e.symm)) (Lib.hid h.aS) (Lib.hid h.a0) (by omega) (by omega) C).mono ?_
    rintro e2 w' ⟨he, hj, hA, hk⟩
    have I := inv_3 len st q h0 h1 hI e
    refine ⟨he, _, R, P, fr, h.sideA (q' := { q with pa := 0, got := q.got + 1 }) hj ?_ hk rfl rfl (.inl hne) (fun e => absurd rfl e), I.1, .inl I.2, rfl⟩
    simpa [aLk] using hA
theorem b_step (S g A B : Nat) (y : Option Addr) (len cap : Nat) (st : Int) (Rb : Nat) (q : Q) (R P : Nat) (fr : Int) (w0 w : World) (h0 : 0 ≤ st) (h1 : st ≤ 59) (hl : len ≤ 60) (hy : Stages w0 y len) (hI : Inv len st q) (h : CW w0 w S g A B y len cap st Rb q R P fr) :
    Calls Try.prog 45 #[.pointer (some ⟨B, 0, none⟩), .pointer (some ⟨S, 0, none⟩), .agg #[.int .i64 1, .int .i64 3, .int .i64 3, .int .i64 3, .int .i64 1, .int .i64 9]] w (BPost w0 S g A B y len cap st Rb q) := by
  have hx61 := xsC_len q.come (tOf 9 1 st) q.W
  have hIu := hI
  unfold Inv at hIu
  have hb := h.b
  have hpb : q.pb = 0 ∨ q.pb = 1 ∨ q.pb = 2 ∨ q.pb = 3 ∨ q.pb = 4 := by omega
  rcases hpb with e | e | e | e | e
  · rw [show bLk q.pb P = none by simp [bLk, e]] at hb
    have hb : BhAt w B st false none q.goes := by simpa [e] using hb
    by_cases hc : st < q.come
    · refine (b_first_yes S g B _ st q.goes q.come w0 w h.j hb (Lib.hid h.bg) (Lib.hid h.bS) (Lib.hid h.b0) (Lib.hid (xsC_9 _ _ _)) hc (by omega) (by omega) (by omega) (by omega)).mono ?_
      rintro e2 w' ⟨he, hj, hB, hk⟩
      have I := inv_b0y len st q h0 h1 hI e hc
      refine ⟨he, _, R, P, fr, h.sideB (q' := { q with pb := 4, goes := q.goes + 1 }) hj ?_ (hk.a3 P) rfl rfl rfl rfl (.inr hk) (fun e => by simp at e), I.1, I.2⟩
      simpa [bLk] using hB
    · refine (b_first_no S g B _ st q.goes q.come w0 w h.j hb (Lib.hid h.bg) (Lib.hid h.bS) (Lib.hid h.b0) (Lib.hid (xsC_9 _ _ _)) (by omega) (by omega) (by omega) (by omega) (by omega)).mono ?_
      rintro e2 w' ⟨he, hj, P', hB, hP, hPs, hk⟩
      have I := inv_b0n len st q h0 h1 hI e (by omega)
      refine ⟨he, _, R, P', fr, h.sideB (q' := { q with pb := 1 }) hj ?_ (hk.a3 P) rfl rfl rfl rfl (.inr hk) (fun _ => ⟨?_, .inr hPs⟩), I.1, I.2⟩
      · simpa [bLk] using hB
      · simpa using hP
  · have hne : 1 ≤ q.pb ∧ q.pb ≤ 3 := by omega
    obtain ⟨hP, hf, _⟩ := h.p hne
    rw [show bLk q.pb P = some ⟨P, 0, none⟩ by simp [bLk, e]] at hb
    have hb : BhAt w B st true (some ⟨P, 0, none⟩) q.goes := by simpa [e] using hb
    have hP : ParkAt w P 1 9 1 st 0 false := by simpa [e] using hP
    have C : PStep w0 w S g P (xsC q.come (tOf 9 1 st) q.W) (xsC q.come (tOf 9 1 st) 1) st 1 false false := by
      intro w1 hb hj
      refine (park_wait S g P 14 _ 1 9 7 st false w0 w1 hj ((hb.block _ (lt_of_heap hP)).trans hP) (Lib.hid hf.1) (Lib.hid hf.2.1) (Lib.hid hf.2.2.2.2) (by decide) (by decide) (Lib.hid (by decide)) (Lib.hid (by decide)) (by omega) (by omega) (Lib.hid (by decide)) ).mono ?_
      rintro e2 w' ⟨he, h2, h3, h4⟩
      exact ⟨he, h2, h3, h4⟩
    refine (b_run S g B P _ _ st q.goes 1 w0 w h.j hb (Lib.hid h.bg) (Lib.hid (fun e => hf.2.2.2.1 e.symm)) C).mono ?_
    rintro e2 w' ⟨he, hj, hB, hP', hk⟩
    have I := inv_b1 len st q h0 h1 hI e
    refine ⟨he, _, R, P, fr, h.sideB (q' := { q with pb := 2, W := 1 }) hj ?_ hk rfl rfl rfl rfl (.inl hne) (fun _ => ⟨?_, .inl ⟨rfl, hne⟩⟩), I.1, I.2⟩
    · simpa [bLk] using hB
    · simpa using hP'
  · have hne : 1 ≤ q.pb ∧ q.pb ≤ 3 := by omega
    obtain ⟨hP, hf, _⟩ := h.p hne
    rw [show bLk q.pb P = some ⟨P, 0, none⟩ by simp [bLk, e]] at hb
    have hb : BhAt w B st true (some ⟨P, 0, none⟩) q.goes := by simpa [e] using hb
    have hP : ParkAt w P 1 9 1 st 1 false := by simpa [e] using hP
    by_cases hc : st < q.come
    · have C : PStep w0 w S g P (xsC q.come (tOf 9 1 st) q.W) (xsC q.come (tOf 9 1 st) q.W) st 2 false false := by
        intro w1 hb hj
        refine (park_look_yes S g P 9 _ 1 9 7 st false w0 w1 hj ((hb.block _ (lt_of_heap hP)).trans hP) (Lib.hid hf.1) (Lib.hid hf.2.1) (Lib.hid hf.2.2.2.2) (by decide) (by decide) (Lib.hid (by decide)) (Lib.hid (by decide)) (by omega) (by omega) (Lib.hid (by decide)) q.come (Lib.hid (xsC_9 _ _ _)) hc).mono ?_
        rintro e2 w' ⟨he, h2, h3, h4⟩
        exact ⟨he, h2, h3, h4⟩
      refine (b_run S g B P _ _ st q.goes 2 w0 w h.j hb (Lib.hid h.bg) (Lib.hid (fun e => hf.2.2.2.1 e.symm)) C).mono ?_
      rintro e2 w' ⟨he, hj, hB, hP', hk⟩
      have I := inv_b2y len st q h0 h1 hI e hc
      refine ⟨he, _, R, P, fr, h.sideB (q' := { q with pb := 3 }) hj ?_ hk rfl rfl rfl rfl (.inl hne) (fun _ => ⟨?_, .inl ⟨rfl, hne⟩⟩), I.1, I.2⟩
      · simpa [bLk] using hB
      · simpa using hP'
    · have C : PStep w0 w S g P (xsC q.come (tOf 9 1 st) q.W) (xsC q.come (tOf 9 1 st) q.W) st 3 true false := by
        intro w1 hb hj
        refine (park_look_no S g P 9 _ 1 9 7 st false w0 w1 hj ((hb.block _ (lt_of_heap hP)).trans hP) (Lib.hid hf.1) (Lib.hid hf.2.1) (Lib.hid hf.2.2.2.2) (by decide) (by decide) (Lib.hid (by decide)) (Lib.hid (by decide)) (by omega) (by omega) (Lib.hid (by decide)) q.come (Lib.hid (xsC_9 _ _ _)) (by omega)).mono ?_
        rintro e2 w' ⟨he, h2, h3, h4⟩
        exact ⟨he, h2, h3, h4⟩
      refine (b_end false S g B P _ _ st q.goes 3 w0 w h.j hb (Lib.hid h.bg) (Lib.hid (fun e => hf.2.2.2.1 e.symm)) (Lib.hid h.bS) (Lib.hid h.b0) (by omega) (by omega) C).mono ?_
      rintro e2 w' ⟨he, hj, hB, hk⟩
      have I := inv_b2n len st q h0 h1 hI e (by omega)
      refine ⟨he, _, R, P, fr, h.sideB (q' := { q with pb := 4 }) hj ?_ hk rfl rfl rfl rfl (.inl hne) (fun e => by simp at e), I.1, I.2⟩
      simpa [bLk] using hB
  · have hne : 1 ≤ q.pb ∧ q.pb ≤ 3 := by omega
    obtain ⟨hP, hf, _⟩ := h.p hne
    rw [show bLk q.pb P = some ⟨P, 0, none⟩ by simp [bLk, e]] at hb
    have hb : BhAt w B st true (some ⟨P, 0, none⟩) q.goes := by simpa [e] using hb
    have hP : ParkAt w P 1 9 1 st 2 false := by simpa [e] using hP
    by_cases hc : q.W = 1
    · have C : PStep w0 w S g P (xsC q.come (tOf 9 1 st) q.W) (xsC q.come (tOf 9 1 st) 0) st 3 true true := by
        intro w1 hb hj
        refine (park_free_yes S g P 14 _ 1 9 7 st false w0 w1 hj ((hb.block _ (lt_of_heap hP)).trans hP) (Lib.hid hf.1) (Lib.hid hf.2.1) (Lib.hid hf.2.2.2.2) (by decide) (by decide) (Lib.hid (by decide)) (Lib.hid (by decide)) (by omega) (by omega) (Lib.hid (by decide)) (Lib.hid (by rw [xsC_14, if_pos hc]))).mono ?_
        rintro e2 w' ⟨he, h2, h3, h4⟩
        exact ⟨he, h2, h3, h4⟩
      refine (b_end true S g B P _ _ st q.goes 3 w0 w h.j hb (Lib.hid h.bg) (Lib.hid (fun e => hf.2.2.2.1 e.symm)) (Lib.hid h.bS) (Lib.hid h.b0) (by omega) (by omega) C).mono ?_
      rintro e2 w' ⟨he, hj, hB, hk⟩
      have I := inv_b3y len st q h0 h1 hI e hc
      refine ⟨he, _, R, P, fr, h.sideB (q' := { q with pb := 4, goes := q.goes + 1, W := 0 }) hj ?_ hk rfl rfl rfl rfl (.inl hne) (fun e => by simp at e), I.1, I.2⟩
      simpa [bLk] using hB
    · have C : PStep w0 w S g P (xsC q.come (tOf 9 1 st) q.W) (xsC q.come (tOf 9 1 st) q.W) st 3 true false := by
        intro w1 hb hj
        refine (park_free_no S g P 14 _ 1 9 7 st false w0 w1 hj ((hb.block _ (lt_of_heap hP)).trans hP) (Lib.hid hf.1) (Lib.hid hf.2.1) (Lib.hid hf.2.2.2.2) (by decide) (by decide) (Lib.hid (by decide)) (Lib.hid (by decide)) (by omega) (by omega) (Lib.hid (by decide)) 0 (Lib.hid (by rw [xsC_14, if_neg hc])) (Lib.hid (tok_ne st h0 h1))).mono ?_
        rintro e2 w' ⟨he, h2, h3, h4⟩
        exact ⟨he, h2, h3, h4⟩
      refine (b_end false S g B P _ _ st q.goes 3 w0 w h.j hb (Lib.hid h.bg) (Lib.hid (fun e => hf.2.2.2.1 e.symm)) (Lib.hid h.bS) (Lib.hid h.b0) (by omega) (by omega) C).mono ?_
      rintro e2 w' ⟨he, hj, hB, hk⟩
      have I := inv_b3n len st q h0 h1 hI e (by omega)
      refine ⟨he, _, R, P, fr, h.sideB (q' := { q with pb := 4 }) hj ?_ hk rfl rfl rfl rfl (.inl hne) (fun e => by simp at e), I.1, I.2⟩
      simpa [bLk] using hB
  · rw [show bLk q.pb P = none by simp [bLk, e]] at hb
    have hb : BhAt w B st true none q.goes := by simpa [e] using hb
    refine (b_done S B st q.goes w hb).mono ?_
    rintro e2 w' ⟨he, hb⟩
    exact ⟨he, q, R, P, fr, h.below hb, hI, Nat.le_refl _, .inr ⟨e, e⟩⟩
end Go.Proofs.Ytegbifphekhgkaa
