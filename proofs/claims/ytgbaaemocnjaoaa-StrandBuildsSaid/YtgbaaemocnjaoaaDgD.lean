/- The document's builder: what holds ahead of each mark of a frame, of a loop (layer 30). -/
import Derived.Test.YtgbaaemocnjaoaaDgP
namespace Go.Proofs.Ytgbaaemocnjaoaa.dg
open Go.ChangeShapes Go.WideShapes Go.ChangeAt Go.RowKit
open Go.Proofs.Ytgbaaemocnjaoaa.ro Go.Proofs.Ytgbaaemocnjaoaa.sn
attribute [local go_sem ↓] Go.wp_at_zero Go.wp_at_succ
set_option linter.unusedVariables false
set_option linter.unusedSimpArgs false
/-- the bodies of a code's loops, from left to right. -/
def loopsIn : Code → List Code
  | .loop c => [c]
  | .seq a b => loopsIn a ++ loopsIn b
  | .cond _ a b => loopsIn a ++ loopsIn b
  | .block _ c => loopsIn c
  | .scope c => loopsIn c
  | _ => []
noncomputable def fbody : Code := ((Try.f15.body.bind fun c => (loopsIn c).head?).getD .skip)
noncomputable def lbody : Code := ((Try.f27.body.bind fun c => (loopsIn c).head?).getD .skip)
def PB (β : Nat) (c : Nat) : Prop := c = 1 ∨ c = 3 ∨ c = 4 ∨ c = 5 ∨ β ≤ c
/-- what a frame answers. -/
def FrQ (w0 w : World) (r : Ro) (b : Nat) (lv : Value) (L : List Mk) (β : Nat) (T : List Fm) (kd : Int) (m0 : Nat) (e : Ending) (w' : World) : Prop :=
  ∃ r' x' v, e = .returned v ∧ DB w0 w' r' b lv x' ∧ KX (PB β) r r' w w' ∧ ((v = .slice none 0 0 ∧ x'.ov = true ∧ Done L x') ∨ ∃ x1 f y, x' = { x1 with at_ := x1.at_ + 1 } ∧ m0 ≤ x1.at_ ∧ At L x1 (T ++ [f]) ∧ L[x1.at_]? = some y ∧ canB y.1 y.2.1 f = true ∧ f.kd = kd ∧ ((kd = 1 ∧ y.1 = 5 ∧ RD 2 enP w' r' 6 v [(0, f.now)]) ∨ (kd = 3 ∧ y.1 = 10 ∧ RD 2 enP w' r' 6 v (f.pa ++ [(f.sg, f.now)]))))
/-- what a loop answers. -/
def LoQ (w0 w : World) (r : Ro) (b : Nat) (lv : Value) (L : List Mk) (β : Nat) (T : List Fm) (q : Fm) (m0 : Nat) (e : Ending) (w' : World) : Prop :=
  ∃ r' x' v, e = .returned v ∧ DB w0 w' r' b lv x' ∧ KX (PB β) r r' w w' ∧ ((x'.ov = true ∧ Done L x') ∨ ∃ x1 l y, x' = { x1 with at_ := x1.at_ + 1 } ∧ m0 ≤ x1.at_ ∧ At L x1 (T ++ [q, l]) ∧ L[x1.at_]? = some y ∧ y.1 = 8 ∧ canB y.1 y.2.1 l = true ∧ RD 1 enI w' r' 6 v l.le)
structure FH (w0 w wr : World) (r r1 : Ro) (b : Nat) (lv : Value) (β nb : Nat) (vah : Value) (x : Dx) (f : Fm) (vr vl : Value) : Prop where
  db : DB w0 wr r1 b lv x
  kx : KX (PB β) r r1 w wr
  row : RR 2 enP wr r1 (β + 1) 73 vr f.pa
  left : RR 1 enI wr r1 β 3 vl f.um
  bo : wr.heap[nb]? = some (.cells #[.int .i64 f.lp, .int .i64 f.it, .int .i64 f.sg] 64 (0, 0))
  br : r1 nb = β + 3
  ah : RD 2 enP wr r1 6 vah f.ah
  no : nodeOf f = (f.lp, f.it, f.sg)
  p0 : ¬ f.kd = 3 → f.pa = []
structure LH (w0 w wr : World) (r r1 : Ro) (b : Nat) (lv : Value) (β : Nat) (x : Dx) (l : Fm) (vl va : Value) : Prop where
  db : DB w0 wr r1 b lv x
  kx : KX (PB β) r r1 w wr
  left : RR 1 enI wr r1 β 3 vl l.le
  ah : RD 2 enP wr r1 6 va l.ah
section
variable {P : Nat → Prop} {w0 w wr w2 : World} {r r1 r2 : Ro} {b β nb : Nat} {lv vah vr vl va : Value} {x x2 : Dx} {f l : Fm}
theorem pb_in {c : Nat} (h : c = 1 ∨ c = 3 ∨ c = 4 ∨ c = 5 ∨ β + 8 ≤ c) : PB β c := by unfold PB; omega
theorem FH.keep (h : FH w0 w wr r r1 b lv β nb vah x f vr vl) (hβ : 8 ≤ β) (hD : DB w0 w2 r2 b lv x2) (hk : KX P r1 r2 wr w2) (hp : ∀ c, P c → c = 1 ∨ c = 3 ∨ c = 4 ∨ c = 5 ∨ β + 8 ≤ c) : FH w0 w w2 r r2 b lv β nb vah x2 f vr vl := by
  have hn : ∀ c, (c = 6 ∨ (β ≤ c ∧ c < β + 8)) → ¬ P c := fun c hc e => by have := hp c e; omega
  have hb := hk.blk h.bo h.br (hn (β + 3) (by omega))
  exact ⟨hD, h.kx.trans (hk.mono fun c hc => pb_in (hp c hc)), h.row.keep hk (hn _ (by omega)), h.left.keep hk (hn _ (by omega)), hb.1, hb.2, h.ah.keep hk (hn _ (by omega)), h.no, h.p0⟩
theorem FH.below (h : FH w0 w wr r r1 b lv β nb vah x f vr vl) (hβ : 8 ≤ β) (c : Nat) (hb : Below wr.heap.size wr w2) : FH w0 w w2 r (ext r1 wr.heap.size c) b lv β nb vah x f vr vl :=
  h.keep hβ (h.db.below c hb).1 (h.db.below c hb).2 (fun _ h => h.elim)
theorem LH.keep (h : LH w0 w wr r r1 b lv β x l vl va) (hβ : 8 ≤ β) (hD : DB w0 w2 r2 b lv x2) (hk : KX P r1 r2 wr w2) (hp : ∀ c, P c → c = 1 ∨ c = 3 ∨ c = 4 ∨ c = 5 ∨ β + 8 ≤ c) : LH w0 w w2 r r2 b lv β x2 l vl va := by
  have hn : ∀ c, (c = 6 ∨ (β ≤ c ∧ c < β + 8)) → ¬ P c := fun c hc e => by have := hp c e; omega
  exact ⟨hD, h.kx.trans (hk.mono fun c hc => pb_in (hp c hc)), h.left.keep hk (hn _ (by omega)), h.ah.keep hk (hn _ (by omega))⟩
theorem LH.below (h : LH w0 w wr r r1 b lv β x l vl va) (hβ : 8 ≤ β) (c : Nat) (hb : Below wr.heap.size wr w2) : LH w0 w w2 r (ext r1 wr.heap.size c) b lv β x l vl va :=
  h.keep hβ (h.db.below c hb).1 (h.db.below c hb).2 (fun _ h => h.elim)
end
/-- the measure: none if the marks are over. -/
def ovOf : Option Value → Bool
  | some (.bool true) => true
  | _ => false
def mu (b n : Nat) (w : World) : Nat := if ovOf (w.cell? ⟨b, 5, none⟩) = true then 0 else n + 1 - (intOf ((w.cell? ⟨b, 1, none⟩).getD undef)).toNat
theorem mu_ov {w0 w : World} {r : Ro} {b n : Nat} {lv : Value} {x : Dx} (h : DB w0 w r b lv x) (ho : x.ov = true) : mu b n w = 0 := by
  have := h.cells.2.2.2.2.2.1
  rw [ho] at this
  exact if_pos (by rw [this]; rfl)
theorem mu_at {w0 w : World} {r : Ro} {b n : Nat} {lv : Value} {x : Dx} (h : DB w0 w r b lv x) (ho : x.ov = false) : mu b n w = n + 1 - x.at_ := by
  have h5 := h.cells.2.2.2.2.2.1
  have h1 := h.cells.2.1
  rw [ho] at h5
  unfold mu
  rw [if_neg (by rw [h5]; simp [ovOf]), h1]
  simp [intOf]
def FI (w0 w : World) (r : Ro) (b : Nat) (lv : Value) (L : List Mk) (β nb : Nat) (T : List Fm) (kd lp it : Int) (ah : List (Int × Int)) (vah : Value) (m0 : Nat) (now : Int) (vr vl : Value) (wr : World) : Prop :=
  ∃ r1 x f, FH w0 w wr r r1 b lv β nb vah x f vr vl ∧ f.kd = kd ∧ f.lp = lp ∧ f.it = it ∧ f.ah = ah ∧ ((x.ov = true ∧ Done L x) ∨ (f.now = now ∧ At L x (T ++ [f]) ∧ m0 ≤ x.at_))
def LI (w0 w : World) (r : Ro) (b : Nat) (lv : Value) (L : List Mk) (β : Nat) (T : List Fm) (q : Fm) (sr : Int) (m0 : Nat) (vl va : Value) (wr : World) : Prop :=
  ∃ r1 x l, LH w0 w wr r r1 b lv β x l vl va ∧ l.kd = 2 ∧ l.lp = sr ∧ ((x.ov = true ∧ Done L x) ∨ (At L x (T ++ [q, l]) ∧ m0 ≤ x.at_))
set_option maxRecDepth 20000 in
def NXF (b nb : Nat) (kk : Int) (n2 vah : Value) (Pd : Int → Value → Value → World → Prop) (Qn : Act → World → Prop) : Prop :=
  ∀ (u10 u13 u14 u15 u16 u17 u18 u19 u20 u21 u22 u23 u24 u25 u26 u27 u28 u29 u30 u31 u32 u33 u34 u35 u36 u37 u38 u39 u40 u41 u42 u43 u44 u45 u46 u47 u48 u49 u50 u51 u52 u53 u54 u55 u56 u57 u58 u59 u60 u61 u62 u63 u64 u65 u66 u67 u68 u69 u70 u71 u72 u73 u74 u75 u76 u77 u78 u79 u80 u81 u82 u83 u84 u85 u86 u87 u88 u89 u90 u91 u92 u93 u94 u95 u96 u97 u98 u99 u100 u101 u102 u103 u104 u105 u106 u107 u108 u109 u110 u111 u112 u113 u114 u115 u116 u117 u118 u119 u120 u121 u122 u123 u124 u125 u126 u127 u128 u129 u130 u131 u132 u133 u134 u135 u136 u137 u138 u139 u140 u141 u142 u143 u144 u145 u146 u147 u148 u149 u150 u151 u152 u153 u154 u155 u156 u157 u158 u159 u160 u161 u162 u163 u164 u165 u166 u167 u168 u169 u170 u171 u172 u173 u174 u175 u176 u177 u178 u179 u180 u181 u182 u183 u184 u185 u186 u187 u188 u189 u190 u191 u192 u193 u194 u195 u196 u197 u198 u199 u200 u201 u202 : Value) (now : Int) (vr vl : Value) (w' : World), Pd now vr vl w' → Qn ⟨#[.pointer (some ⟨b, 0, none⟩), .int .i64 kk, n2, .int .i64 now, vah, undef, undef, .pointer (some ⟨nb, 0, none⟩), undef, undef, u10, vr, vl, u13, u14, u15, u16, u17, u18, u19, u20, u21, u22, u23, u24, u25, u26, u27, u28, u29, u30, u31, u32, u33, u34, u35, u36, u37, u38, u39, u40, u41, u42, u43, u44, u45, u46, u47, u48, u49, u50, u51, u52, u53, u54, u55, u56, u57, u58, u59, u60, u61, u62, u63, u64, u65, u66, u67, u68, u69, u70, u71, u72, u73, u74, u75, u76, u77, u78, u79, u80, u81, u82, u83, u84, u85, u86, u87, u88, u89, u90, u91, u92, u93, u94, u95, u96, u97, u98, u99, u100, u101, u102, u103, u104, u105, u106, u107, u108, u109, u110, u111, u112, u113, u114, u115, u116, u117, u118, u119, u120, u121, u122, u123, u124, u125, u126, u127, u128, u129, u130, u131, u132, u133, u134, u135, u136, u137, u138, u139, u140, u141, u142, u143, u144, u145, u146, u147, u148, u149, u150, u151, u152, u153, u154, u155, u156, u157, u158, u159, u160, u161, u162, u163, u164, u165, u166, u167, u168, u169, u170, u171, u172, u173, u174, u175, u176, u177, u178, u179, u180, u181, u182, u183, u184, u185, u186, u187, u188, u189, u190, u191, u192, u193, u194, u195, u196, u197, u198, u199, u200, u201, u202], []⟩ w'
set_option maxRecDepth 20000 in
def NXL (b : Nat) (sr now : Int) (Pd : Value → Value → World → Prop) (Qn : Act → World → Prop) : Prop :=
  ∀ (u6 u9 u10 u11 u12 u13 u14 u15 u16 u17 u18 u19 u20 u21 u22 u23 u24 u25 u26 u27 u28 u29 u30 u31 u32 u33 u34 u35 u36 u37 u38 u39 u40 u41 u42 u43 u44 u45 u46 u47 u48 u49 u50 u51 u52 u53 u54 u55 u56 u57 u58 u59 u60 u61 u62 u63 u64 u65 u66 u67 u68 u69 u70 u71 u72 u73 u74 u75 u76 u77 u78 u79 u80 u81 u82 u83 u84 u85 u86 u87 u88 u89 u90 u91 u92 u93 u94 u95 : Value) (vl va : Value) (w' : World), Pd vl va w' → Qn ⟨#[.pointer (some ⟨b, 0, none⟩), .int .i64 sr, .int .i64 now, undef, undef, undef, u6, vl, va, u9, u10, u11, u12, u13, u14, u15, u16, u17, u18, u19, u20, u21, u22, u23, u24, u25, u26, u27, u28, u29, u30, u31, u32, u33, u34, u35, u36, u37, u38, u39, u40, u41, u42, u43, u44, u45, u46, u47, u48, u49, u50, u51, u52, u53, u54, u55, u56, u57, u58, u59, u60, u61, u62, u63, u64, u65, u66, u67, u68, u69, u70, u71, u72, u73, u74, u75, u76, u77, u78, u79, u80, u81, u82, u83, u84, u85, u86, u87, u88, u89, u90, u91, u92, u93, u94, u95], []⟩ w'
def GF (w0 w : World) (r : Ro) (b : Nat) (lv : Value) (L : List Mk) (β nb : Nat) (T : List Fm) (kd lp it : Int) (ah : List (Int × Int)) (vah : Value) (m0 n M : Nat) (now : Int) (vr vl : Value) (wr : World) : Prop :=
  Hid (FI w0 w r b lv L β nb T kd lp it ah vah m0 now vr vl wr ∧ mu b n wr < M)
def GL (w0 w : World) (r : Ro) (b : Nat) (lv : Value) (L : List Mk) (β : Nat) (T : List Fm) (q : Fm) (sr : Int) (m0 n M : Nat) (vl va : Value) (wr : World) : Prop :=
  Hid (LI w0 w r b lv L β T q sr m0 vl va wr ∧ mu b n wr < M)
section
variable {w0 w wr w2 : World} {r r1 r2 : Ro} {b β nb m0 n : Nat} {lv vah vr vl va : Value} {x x2 : Dx} {f f2 l q : Fm} {L : List Mk} {T : List Fm} {kd lp it now sr : Int} {ah : List (Int × Int)}
theorem GF.over (hD : DB w0 wr r1 b lv x) (HA : At L x (T ++ [f])) (hn : n = L.length) (h : FH w0 w w2 r r2 b lv β nb vah x2 f2 vr vl) (hf : f2.kd = f.kd ∧ f2.lp = lp ∧ f2.it = it ∧ f2.ah = ah) (ho : x2.ov = true) (hd : Done L x2) : GF w0 w r b lv L β nb T f.kd lp it ah vah m0 n (mu b n wr) now vr vl w2 := by
  refine Lib.hid ⟨⟨r2, x2, f2, h, hf.1, hf.2.1, hf.2.2.1, hf.2.2.2, .inl ⟨ho, hd⟩⟩, ?_⟩
  rw [mu_ov h.db ho, mu_at hD HA.ov]
  have := HA.le
  omega
theorem GF.go (hD : DB w0 wr r1 b lv x) (HA : At L x (T ++ [f])) (hn : n = L.length) (h : FH w0 w w2 r r2 b lv β nb vah x2 f2 vr vl) (hf : f2.kd = f.kd ∧ f2.lp = lp ∧ f2.it = it ∧ f2.ah = ah) (hw : f2.now = now) (ha : At L x2 (T ++ [f2])) (hm : m0 ≤ x.at_) (hl : x.at_ < x2.at_) : GF w0 w r b lv L β nb T f.kd lp it ah vah m0 n (mu b n wr) now vr vl w2 := by
  refine Lib.hid ⟨⟨r2, x2, f2, h, hf.1, hf.2.1, hf.2.2.1, hf.2.2.2, .inr ⟨hw, ha, by omega⟩⟩, ?_⟩
  rw [mu_at h.db ha.ov, mu_at hD HA.ov]
  have := HA.le
  omega
theorem GL.over (hD : DB w0 wr r1 b lv x) (HA : At L x (T ++ [q, l])) (hn : n = L.length) (h : LH w0 w w2 r r2 b lv β x2 f2 vl va) (hf : f2.kd = 2 ∧ f2.lp = sr) (ho : x2.ov = true) (hd : Done L x2) : GL w0 w r b lv L β T q sr m0 n (mu b n wr) vl va w2 := by
  refine Lib.hid ⟨⟨r2, x2, f2, h, hf.1, hf.2, .inl ⟨ho, hd⟩⟩, ?_⟩
  rw [mu_ov h.db ho, mu_at hD HA.ov]
  have := HA.le
  omega
theorem GL.go (hD : DB w0 wr r1 b lv x) (HA : At L x (T ++ [q, l])) (hn : n = L.length) (h : LH w0 w w2 r r2 b lv β x2 f2 vl va) (hf : f2.kd = 2 ∧ f2.lp = sr) (ha : At L x2 (T ++ [q, f2])) (hm : m0 ≤ x.at_) (hl : x.at_ < x2.at_) : GL w0 w r b lv L β T q sr m0 n (mu b n wr) vl va w2 := by
  refine Lib.hid ⟨⟨r2, x2, f2, h, hf.1, hf.2, .inr ⟨ha, by omega⟩⟩, ?_⟩
  rw [mu_at h.db ha.ov, mu_at hD HA.ov]
  have := HA.le
  omega
end
end Go.Proofs.Ytgbaaemocnjaoaa.dg
