/- The text of a difference. The text of a difference: the walk. -/
import Derived.Test.YtpapcnogbmjpjaaGreatDoorK36
import Derived.Test.YtpapcnogbmjpjaaGreatDoorK37
namespace Go.Proofs.YtpapcnogbmjpjaaGreatDoor
open Go.RowKit
set_option maxRecDepth 100000
set_option linter.unusedSimpArgs false
set_option linter.unusedVariables false
attribute [local go_sem] Oper.semAt_some

/-- where the writers of a text lie -/
structure EnvX (w : World) (b Wa Sa Ba : Nat) : Prop where
  hW : w.heap[Wa]? = some (.cells #[.func (.func 48) #[] #[.pointer (some ⟨b, 0, none⟩), .pointer (some ⟨Wa, 0, none⟩), .pointer (some ⟨Sa, 0, none⟩), .pointer (some ⟨Ba, 0, none⟩)]] 91 (0, 0))
  hS : w.heap[Sa]? = some (.cells #[.func (.func 47) #[] #[.pointer (some ⟨Ba, 0, none⟩), .pointer (some ⟨Wa, 0, none⟩)]] 91 (0, 0))
theorem Bd.block {B b : Nat} {w : World} {l : List UInt8} (h : Bd B w b l) : ∃ cs, w.heap[b]? = some (Obj.cells cs 64 (0, 0)) := by
  rcases h with ⟨_, v, h, _⟩ | ⟨_, v, h, _⟩ <;> exact ⟨_, h⟩
theorem Bd.on {B b : Nat} {w w' : World} {l : List UInt8} (h : Bd B w b l) (hb : Below w.heap.size w w') : Bd B w' b l := by
  rcases h with ⟨h0, v, h1, h2, h3⟩ | ⟨h0, v, h1, h2, h3⟩
  · exact .inl ⟨h0, v, heap_on hb h1, own_on h2 hb, h3⟩
  · exact .inr ⟨h0, v, heap_on hb h1, own_on h2 hb, h3⟩
theorem Bd.keep {B b k : Nat} {w w' : World} {l : List UInt8} (h : Bd B w b l) (hk : BK b w w') {cs : Array Value} {T : TypeId} {fr : Nat × Nat} (hc : w.heap[k]? = some (.cells cs T fr)) (h1 : T ≠ 5) (h2 : T ≠ 64) : w'.heap[k]? = some (.cells cs T fr) :=
  hk.keep k cs T fr hc h1 (fun e => by
    obtain ⟨c2, hb⟩ := h.block
    rw [e, hb] at hc
    injection hc with hc
    injection hc with _ h3 _
    exact h2 h3.symm)
theorem EnvX.bk {B b Wa Sa Ba : Nat} {w w' : World} {l : List UInt8} (h : EnvX w b Wa Sa Ba) (hd : Bd B w b l) (hk : BK b w w') : EnvX w' b Wa Sa Ba := ⟨hd.keep hk h.hW (by decide) (by decide), hd.keep hk h.hS (by decide) (by decide)⟩
theorem EnvX.on {b Wa Sa Ba : Nat} {w w' : World} (h : EnvX w b Wa Sa Ba) (hb : Below w.heap.size w w') : EnvX w' b Wa Sa Ba := ⟨heap_on hb h.hW, heap_on hb h.hS⟩
theorem AtT.bk {B b : Nat} {w w' : World} {l : List UInt8} {t : Tr} (h : AtT w t) (hd : Bd B w b l) (hk : BK b w w') : AtT w' t :=
  AtT.on t h (fun k hq => by
    obtain ⟨cs, hcs⟩ := AtT.typed t h k hq
    rw [hcs]
    exact hd.keep hk hcs (by decide) (by decide)) hk.size
def OutW (B b : Nat) (l x : List UInt8) (w : World) (e : Ending) (w' : World) : Prop := e = .returned (.tuple #[]) ∧ Bd B w' b (l ++ x) ∧ Below B w w' ∧ BK b w w'
def WriteC (t : Tr) (x : List UInt8) : Prop := ∀ (B b Wa Sa Ba : Nat) (l : List UInt8) (w : World), Bd B w b l → l.length + x.length ≤ 1000 → B ≤ w.heap.size → EnvX w b Wa Sa Ba → AtT w t →
  Calls Tryz.prog 48 #[.agg (exC t).toArray, .pointer (some ⟨b, 0, none⟩), .pointer (some ⟨Wa, 0, none⟩), .pointer (some ⟨Sa, 0, none⟩), .pointer (some ⟨Ba, 0, none⟩)] w (OutW B b l x w)
def SignC (t : Tr) (x : List UInt8) : Prop := ∀ (B b Wa Sa Ba : Nat) (l : List UInt8) (w : World), Bd B w b l → l.length + x.length ≤ 1000 → B ≤ w.heap.size → EnvX w b Wa Sa Ba → AtT w t →
  Calls Tryz.prog 47 #[.agg (exC t).toArray, .pointer (some ⟨Ba, 0, none⟩), .pointer (some ⟨Wa, 0, none⟩)] w (OutW B b l x w)
theorem code_name5 (w : World) : Calls Tryz.prog 44 #[.int .i64 5] w fun e w' => e = .returned (.string ⟨#[45]⟩) ∧ w' = w := by
  go_enter Tryz.func44, Tryz.ntmps44
  go_wp2
  go_ret
  exact ⟨rfl, rfl⟩
set_option maxHeartbeats 4000000 in
theorem write_num (n : Nat) (hn : n < 100) (fA : Option Addr) (fc kb kc : Nat) : WriteC (.mk 1 n ⟨#[]⟩ fA 0 fc kb kc []) (Lib.decDigits n) := by
  intro B b Wa Sa Ba l w hd hl hB hE hA
  show Calls Tryz.prog 48 #[.agg #[.int .i64 1, .int .i64 (n : Nat), .string ⟨#[]⟩, .slice fA 0 fc, .slice none 0 0], .pointer (some ⟨b, 0, none⟩), .pointer (some ⟨Wa, 0, none⟩), .pointer (some ⟨Sa, 0, none⟩), .pointer (some ⟨Ba, 0, none⟩)] w (OutW B b l (Lib.decDigits n) w)
  have hb0 := below_alloc w (.cells #[.int .i64 1, .int .i64 (n : Nat), .string ⟨#[]⟩, .slice fA 0 fc, .slice none 0 0] 32)
  have H0 := Lib.hid (heap_alloc_new w (.cells #[.int .i64 1, .int .i64 (n : Nat), .string ⟨#[]⟩, .slice fA 0 fc, .slice none 0 0] 32))
  have HB0 := Lib.hid hb0
  have HI := Lib.hid (fun W => Tryz.strconv_Itoa_small n hn W)
  have HW := Lib.hid (code_ws B b l ⟨(Lib.decDigits n).toArray⟩ _ (hd.on hb0) (by
    have : (⟨(Lib.decDigits n).toArray⟩ : ByteArray).size = (Lib.decDigits n).length := by simp [ByteArray.size]
    omega) (Nat.le_trans hB hb0.size))
  have HBl := Lib.hid hB
  obtain ⟨x, hx⟩ : ∃ x, Lib.decDigits n = x := ⟨_, rfl⟩
  rw [hx] at HI HW ⊢
  clear hd hl hB hE hA hb0 hn hx
  obtain ⟨e0, e1, e2, e3, e4⟩ := row5c H0.out
  go_enter Tryz.func48, Tryz.ntmps48
  go_wp2_with (go_at_call 45; refine (HI.out _).mono ?_; rintro e w2 ⟨rfl, rfl⟩; refine Stop.out ?_)
  unfold Stop
  clear e0 e1 e2 e3 e4
  go_wp2_with (go_at_call 23; refine HW.out.mono ?_; rintro e w3 ⟨rfl, h1, h2, h3⟩; refine Stop.out ?_)
  unfold Stop
  have HFin := Lib.hid (And.intro h1 (And.intro ((HB0.out.mono HBl.out).trans h2) ((BK.of HB0.out).trans h3)))
  clear h1 h2 h3
  go_wp2
  first | (go_end0; exact ⟨rfl, by simpa using HFin.out.1, HFin.out.2.1, HFin.out.2.2⟩) | exact ⟨rfl, by simpa using HFin.out.1, HFin.out.2.1, HFin.out.2.2⟩
set_option maxHeartbeats 4000000 in
theorem sign_any {t0 t1 : Int} {t2 : ByteArray} {fA : Option Addr} {fn fc kb kc : Nat} {ks : List Tr} {x : List UInt8} (h4 : t0 ≠ 4) (h5 : t0 ≠ 5) (h : WriteC (.mk t0 t1 t2 fA fn fc kb kc ks) x) : SignC (.mk t0 t1 t2 fA fn fc kb kc ks) x := by
  intro B b Wa Sa Ba l w hd hl hB hE hA
  obtain ⟨KA, KN, KC, hkv⟩ := kids_slice (kv := kidsV kb kc ks) rfl
  have hx : (exC (.mk t0 t1 t2 fA fn fc kb kc ks)).toArray = #[.int .i64 t0, .int .i64 t1, .string t2, .slice fA fn fc, .slice KA KN KC] := by simp only [exC]; rw [hkv]
  have hb0 := below_alloc w (.cells #[.int .i64 t0, .int .i64 t1, .string t2, .slice fA fn fc, .slice KA KN KC] 32)
  have HW := Lib.hid (h B b Wa Sa Ba l _ (hd.on hb0) hl (Nat.le_trans hB hb0.size) (hE.on hb0) (AtT.on _ hA (fun k hk => hb0.block k (AtT.lt _ hA k hk)) hb0.size))
  rw [hx] at HW ⊢
  have H0 := Lib.hid (heap_alloc_new w (.cells #[.int .i64 t0, .int .i64 t1, .string t2, .slice fA fn fc, .slice KA KN KC] 32))
  have HB0 := Lib.hid hb0
  have HBl := Lib.hid hB
  obtain ⟨w0c, _⟩ := one_cell (heap_on hb0 hE.hW)
  have hq4 : (t0 == 4) = false := by simpa using h4
  have hq5 : (t0 == 5) = false := by simpa using h5
  clear h4 h5 h hd hl hB hE hA hb0 hx hkv
  obtain ⟨e0, e1, e2, e3, e4⟩ := row5c H0.out
  go_enter Tryz.func47, Tryz.ntmps47
  go_wp2_with (go_at_call 48; refine HW.out.mono ?_; rintro e w3 ⟨rfl, h1, h2, h3⟩; refine Stop.out ?_)
  unfold Stop
  have HFin := Lib.hid (And.intro h1 (And.intro ((HB0.out.mono HBl.out).trans h2) ((BK.of HB0.out).trans h3)))
  clear h1 h2 h3 e0 e1 e2 e3 e4
  go_wp2
  first | (go_end0; exact ⟨rfl, HFin.out.1, HFin.out.2.1, HFin.out.2.2⟩) | exact ⟨rfl, HFin.out.1, HFin.out.2.1, HFin.out.2.2⟩
end Go.Proofs.YtpapcnogbmjpjaaGreatDoor

namespace Go.Proofs.YtpapcnogbmjpjaaGreatDoor
open Go.RowKit
set_option maxRecDepth 100000
set_option linter.unusedSimpArgs false
set_option linter.unusedVariables false
attribute [local go_sem] Oper.semAt_some

/-- two expressions, side by side in a row of their own -/
def TenC (w : World) (kb : Nat) (l : List Value) : Prop := l.length = 10 ∧ ∃ cs : Array Value, w.heap[kb]? = some (.cells cs 32 (0, 0)) ∧ ∀ (j : Nat) (v : Value), l[j]? = some v → cs[j]? = some v
theorem TenC.on {w w' : World} {kb : Nat} {l : List Value} (h : TenC w kb l) (hb : Below w.heap.size w w') : TenC w' kb l := by
  obtain ⟨h0, cs, h1, h2⟩ := h
  exact ⟨h0, cs, heap_on hb h1, h2⟩
theorem TenC.keep {B b : Nat} {w w' : World} {kb : Nat} {l : List Value} {q : List UInt8} (h : TenC w kb l) (hd : Bd B w b q) (hk : BK b w w') : TenC w' kb l := by
  obtain ⟨h0, cs, h1, h2⟩ := h
  exact ⟨h0, cs, hd.keep hk h1 (by decide) (by decide), h2⟩
theorem ten_cells {w : World} {kb : Nat} {a0 a1 a2 a3 a4 b0 b1 b2 b3 b4 : Value} (h : TenC w kb [a0, a1, a2, a3, a4, b0, b1, b2, b3, b4]) : w.cell? ⟨kb, 0, none⟩ = some a0 ∧ w.cell? ⟨kb, 1, none⟩ = some a1 ∧ w.cell? ⟨kb, 2, none⟩ = some a2 ∧ w.cell? ⟨kb, 3, none⟩ = some a3 ∧ w.cell? ⟨kb, 4, none⟩ = some a4 ∧ w.cell? ⟨kb, 5, none⟩ = some b0 ∧ w.cell? ⟨kb, 6, none⟩ = some b1 ∧ w.cell? ⟨kb, 7, none⟩ = some b2 ∧ w.cell? ⟨kb, 8, none⟩ = some b3 ∧ w.cell? ⟨kb, 9, none⟩ = some b4 := by
  obtain ⟨_, cs, h1, h2⟩ := h
  have f : ∀ j v, [a0, a1, a2, a3, a4, b0, b1, b2, b3, b4][j]? = some v → w.cell? ⟨kb, j, none⟩ = some v := fun j v hv => (cell_of_row w kb j _ _ _ h1).trans (h2 j v hv)
  exact ⟨f 0 _ rfl, f 1 _ rfl, f 2 _ rfl, f 3 _ rfl, f 4 _ rfl, f 5 _ rfl, f 6 _ rfl, f 7 _ rfl, f 8 _ rfl, f 9 _ rfl⟩
set_option maxHeartbeats 8000000 in
theorem write_minus {n : Int} {fd : ByteArray} {fA : Option Addr} {fn fc kb kc : Nat} {tx ty : Tr} {x y : List UInt8} (hx : WriteC tx x) (hy : SignC ty y) : WriteC (.mk 5 n fd fA fn fc kb kc [tx, ty]) (x ++ [32, 45, 32] ++ y) := by
  intro B b Wa Sa Ba l w hd hl hB hE hA
  unfold AtT at hA
  obtain ⟨hAl, hrow⟩ := hA
  have hr := (hrow (by simp)).1
  unfold AtL AtL at hAl
  show Calls Tryz.prog 48 #[.agg #[.int .i64 5, .int .i64 n, .string fd, .slice fA fn fc, .slice (some ⟨kb, 0, none⟩) 2 kc], .pointer (some ⟨b, 0, none⟩), .pointer (some ⟨Wa, 0, none⟩), .pointer (some ⟨Sa, 0, none⟩), .pointer (some ⟨Ba, 0, none⟩)] w (OutW B b l (x ++ [32, 45, 32] ++ y) w)
  have hb0 := below_alloc w (.cells #[.int .i64 5, .int .i64 n, .string fd, .slice fA fn fc, .slice (some ⟨kb, 0, none⟩) 2 kc] 32)
  have H0 := Lib.hid (heap_alloc_new w (.cells #[.int .i64 5, .int .i64 n, .string fd, .slice fA fn fc, .slice (some ⟨kb, 0, none⟩) 2 kc] 32))
  have HB0 := Lib.hid hb0
  have HBl := Lib.hid hB
  have HD0 := Lib.hid (hd.on hb0)
  have HE0 := Lib.hid (hE.on hb0)
  have HX := Lib.hid hx
  have HY := Lib.hid hy
  have HLn : Hid (l.length + x.length + 3 + y.length ≤ 1000) := Lib.hid (by simp at hl; omega)
  have HAx : Hid (AtT w tx) := Lib.hid hAl.1
  have HAy : Hid (AtT w ty) := Lib.hid hAl.2.1
  have HT0 : Hid (TenC w kb (exC tx ++ exC ty)) := Lib.hid (by
    obtain ⟨cs, h1, h2⟩ := hr
    exact ⟨by rw [List.length_append, exC_len, exC_len], cs, h1, fun j v hv => h2 j v (by
      have e : exCs [tx, ty] = exC tx ++ exC ty := by simp [exCs]
      rw [e]
      exact hv)⟩)
  clear hx hy hd hl hB hE hAl hrow hr hb0
  obtain ⟨g, hg⟩ : ∃ g, g = w.heap.size := ⟨_, rfl⟩
  obtain ⟨x0, x1, x2, xA, xn, xc, xb, xk, xs⟩ := tx
  obtain ⟨y0, y1, y2, yA, yn, yc, yb, yk, ys⟩ := ty
  obtain ⟨XA, XN, XC, hkx⟩ := kids_slice (kv := kidsV xb xk xs) rfl
  obtain ⟨YA, YN, YC, hky⟩ := kids_slice (kv := kidsV yb yk ys) rfl
  have HXe : Hid ((exC (.mk x0 x1 x2 xA xn xc xb xk xs)).toArray = #[.int .i64 x0, .int .i64 x1, .string x2, .slice xA xn xc, .slice XA XN XC]) := Lib.hid (by simp only [exC]; rw [hkx])
  have HYe : Hid ((exC (.mk y0 y1 y2 yA yn yc yb yk ys)).toArray = #[.int .i64 y0, .int .i64 y1, .string y2, .slice yA yn yc, .slice YA YN YC]) := Lib.hid (by simp only [exC]; rw [hky])
  have HT1 : Hid (TenC w kb [.int .i64 x0, .int .i64 x1, .string x2, .slice xA xn xc, .slice XA XN XC, .int .i64 y0, .int .i64 y1, .string y2, .slice yA yn yc, .slice YA YN YC]) := Lib.hid (by have := HT0.out; simp only [exC] at this; rw [hkx, hky] at this; exact this)
  clear hkx hky HT0
  obtain ⟨e0, e1, e2, e3, e4⟩ := row5c H0.out
  have hA1 : ∀ W, (Op.stringOp .add ⟨#[32]⟩ ⟨#[45]⟩).run Tryz.prog W = .ok (.string ⟨#[32, 45]⟩) W := fun W => by rw [run_string_add_sum W _ _ (by decide)]; rfl
  have hA2 : ∀ W, (Op.stringOp .add ⟨#[32, 45]⟩ ⟨#[32]⟩).run Tryz.prog W = .ok (.string ⟨#[32, 45, 32]⟩) W := fun W => by rw [run_string_add_sum W _ _ (by decide)]; rfl
  go_enter Tryz.func48, Tryz.ntmps48
  go_wp2
  rw [← hg]
  have HG : Hid (w.heap.size ≤ g) := Lib.hid (by omega)
  rw [← hg] at H0
  clear hg e0 e1 e2 e3 e4
  have HBd0 := Lib.hid (HD0.out.on (below_drew _))
  have HEd := Lib.hid (HE0.out.on (below_drew _))
  have HBw := Lib.hid (below_then HB0.out (below_drew _))
  have HGd := Lib.hid (heap_on (below_drew _) H0.out)
  clear HD0 HE0 HB0 H0
  refine wp_region_held_drew (S := fun V : World => V.heap[Wa]? = some (.cells #[.func (.func 48) #[] #[.pointer (some ⟨b, 0, none⟩), .pointer (some ⟨Wa, 0, none⟩), .pointer (some ⟨Sa, 0, none⟩), .pointer (some ⟨Ba, 0, none⟩)]] 91 (0, 0)) ∧ V.heap[g]? = some (.cells #[.int .i64 5, .int .i64 n, .string fd, .slice fA fn fc, .slice (some ⟨kb, 0, none⟩) 2 kc] 32 (0, 0)) ∧ TenC V kb [.int .i64 x0, .int .i64 x1, .string x2, .slice xA xn xc, .slice XA XN XC, .int .i64 y0, .int .i64 y1, .string y2, .slice yA yn yc, .slice YA YN YC]) (by kernel_rfl) ⟨HEd.out.hW, HGd.out, HT1.out.on HBw.out⟩ ?_
  intro hHeld
  generalize (w.alloc (.cells #[.int .i64 5, .int .i64 n, .string fd, .slice fA fn fc, .slice (some ⟨kb, 0, none⟩) 2 kc] 32)).drew = wd at HBd0 HEd HBw HGd hHeld ⊢
  have HAx2 : Hid (AtT wd _) := Lib.hid (AtT.on _ HAx.out (fun k hk => HBw.out.block k (AtT.lt _ HAx.out k hk)) HBw.out.size)
  have HAy2 : Hid (AtT wd _) := Lib.hid (AtT.on _ HAy.out (fun k hk => HBw.out.block k (AtT.lt _ HAy.out k hk)) HBw.out.size)
  have HWx := Lib.hid (HX.out B b Wa Sa Ba l wd HBd0.out (by have := HLn.out; omega) (Nat.le_trans HBl.out HBw.out.size) HEd.out HAx2.out)
  rw [HXe.out] at HWx
  have HBd1 := HBd0
  clear HX HAx HAy HGd
  (refine takeH (i := 0) (v := ?_) rfl (by kernel_rfl) (by kernel_rfl) (by kernel_rfl) (fun _ _ _ h => h) (Or.inl ⟨by rfl, ?_⟩) (by assumption) ?_; rotate_left; (focus ((intro wS hSw); (try dsimp only at hSw); obtain ⟨⟨s0, _⟩, ⟨r0, r1, r2, r3, r4⟩, c0, c1, c2, c3, c4, c5, c6, c7, c8, c9⟩ := And.intro (one_cell hSw.1) (And.intro (row5c hSw.2.1) (ten_cells hSw.2.2)); go_simp; (try with_reducible rfl); done)); (try simp only [Act.put, List.setIfInBounds_toArray, List.set_cons_zero, List.set_cons_succ]))
  (refine takeH (i := 1) (v := ?_) rfl (by kernel_rfl) (by kernel_rfl) (by kernel_rfl) (fun _ _ _ h => h) (Or.inl ⟨by rfl, ?_⟩) (by assumption) ?_; rotate_left; (focus ((intro wS hSw); (try dsimp only at hSw); obtain ⟨⟨s0, _⟩, ⟨r0, r1, r2, r3, r4⟩, c0, c1, c2, c3, c4, c5, c6, c7, c8, c9⟩ := And.intro (one_cell hSw.1) (And.intro (row5c hSw.2.1) (ten_cells hSw.2.2)); go_simp; (try with_reducible rfl); done)); (try simp only [Act.put, List.setIfInBounds_toArray, List.set_cons_zero, List.set_cons_succ]))
  (refine takeH (i := 2) (v := ?_) rfl (by kernel_rfl) (by kernel_rfl) (by kernel_rfl) (fun _ _ _ h => h) (Or.inl ⟨by rfl, ?_⟩) (by assumption) ?_; rotate_left; (focus ((intro wS hSw); (try dsimp only at hSw); obtain ⟨⟨s0, _⟩, ⟨r0, r1, r2, r3, r4⟩, c0, c1, c2, c3, c4, c5, c6, c7, c8, c9⟩ := And.intro (one_cell hSw.1) (And.intro (row5c hSw.2.1) (ten_cells hSw.2.2)); go_simp; (try with_reducible rfl); done)); (try simp only [Act.put, List.setIfInBounds_toArray, List.set_cons_zero, List.set_cons_succ]))
  (refine takeH (i := 3) (v := ?_) rfl (by kernel_rfl) (by kernel_rfl) (by kernel_rfl) (fun _ _ _ h => h) (Or.inl ⟨by rfl, ?_⟩) (by assumption) ?_; rotate_left; (focus ((intro wS hSw); (try dsimp only at hSw); obtain ⟨⟨s0, _⟩, ⟨r0, r1, r2, r3, r4⟩, c0, c1, c2, c3, c4, c5, c6, c7, c8, c9⟩ := And.intro (one_cell hSw.1) (And.intro (row5c hSw.2.1) (ten_cells hSw.2.2)); go_simp; (try with_reducible rfl); done)); (try simp only [Act.put, List.setIfInBounds_toArray, List.set_cons_zero, List.set_cons_succ]))
  (refine takeH (i := 4) (v := ?_) rfl (by kernel_rfl) (by kernel_rfl) (by kernel_rfl) (fun _ _ _ h => h) (Or.inl ⟨by rfl, ?_⟩) (by assumption) ?_; rotate_left; (focus ((intro wS hSw); (try dsimp only at hSw); obtain ⟨⟨s0, _⟩, ⟨r0, r1, r2, r3, r4⟩, c0, c1, c2, c3, c4, c5, c6, c7, c8, c9⟩ := And.intro (one_cell hSw.1) (And.intro (row5c hSw.2.1) (ten_cells hSw.2.2)); go_simp; (try with_reducible rfl); done)); (try simp only [Act.put, List.setIfInBounds_toArray, List.set_cons_zero, List.set_cons_succ]))
  refine aloneH (i := 5) rfl (by kernel_rfl) (fun K hK => ?_)
  rw [if_pos (by rfl)]
  go_simp
  refine (HWx.out).mono ?_
  rintro e w1 ⟨rfl, hbd, hb, hk⟩
  have HD1 := Lib.hid (And.intro hbd (And.intro hb hk))
  have HS1 := Lib.hid (And.intro (HBd1.out.keep hk hHeld.1 (by decide) (by decide)) (And.intro (HBd1.out.keep hk hHeld.2.1 (by decide) (by decide)) (TenC.keep hHeld.2.2 HBd1.out hk)))
  clear hbd hb hk
  go_simp
  refine hK.out _ _ (HS1.out) (fun hNew => ?_)
  clear hK K hHeld; (have hHeld := hNew); clear hNew; (try simp only [Act.put, List.setIfInBounds_toArray, List.set_cons_zero, List.set_cons_succ])
  refine wpAnyH_done (by kernel_rfl) ?_ _
  clear hHeld
  refine Stop.out ?_
  unfold Stop
  have HL1 := Lib.hid (HBw.out.mono HBl.out |>.trans HD1.out.2.1)
  have HK1 := Lib.hid ((BK.of HBw.out).trans HD1.out.2.2)
  have HAy3 := Lib.hid (AtT.bk HAy2.out HBd0.out HD1.out.2.2)
  have HE1 := Lib.hid (HEd.out.bk HBd0.out HD1.out.2.2)
  have HB1 := Lib.hid HD1.out.1
  clear HD1 HAy2 HAx2 HEd HBd0 HBd1 HWx
  generalize w1 = wa at HS1 HL1 HK1 HAy3 HE1 HB1 ⊢
  have HWs := Lib.hid (code_ws B b (l ++ x) ⟨#[32, 45, 32]⟩ wa HB1.out (by have := HLn.out; rw [List.length_append]; show _ + 3 ≤ _; omega) (Nat.le_trans HBl.out HL1.out.size))
  obtain ⟨e0, e1, e2, e3, e4⟩ := row5c HS1.out.2.1
  go_wp2_with (go_at_call 44; refine (code_name5 _).mono ?_; rintro e w2 ⟨rfl, rfl⟩; refine Stop.out ?_)
  unfold Stop
  go_wp2_with (go_at_call 23; refine HWs.out.mono ?_; rintro e wb ⟨rfl, h1, h2, h3⟩; refine Stop.out ?_)
  unfold Stop
  clear e0 e1 e2 e3 e4 HWs hA1 hA2
  have HB2 := Lib.hid h1
  have HL2 := Lib.hid (HL1.out.trans h2)
  have HK2 := Lib.hid (HK1.out.trans h3)
  have HE2 := Lib.hid (HE1.out.bk HB1.out h3)
  have HAy4 := Lib.hid (AtT.bk HAy3.out HB1.out h3)
  have HG2 := Lib.hid (HB1.out.keep h3 HS1.out.2.1 (by decide) (by decide))
  have HT2 := Lib.hid (HS1.out.2.2.keep HB1.out h3)
  clear h1 h2 h3 HS1 HL1 HK1 HAy3 HE1 HB1
  go_wp2
  refine wp_region_held_drew (S := fun V : World => V.heap[Sa]? = some (.cells #[.func (.func 47) #[] #[.pointer (some ⟨Ba, 0, none⟩), .pointer (some ⟨Wa, 0, none⟩)]] 91 (0, 0)) ∧ V.heap[g]? = some (.cells #[.int .i64 5, .int .i64 n, .string fd, .slice fA fn fc, .slice (some ⟨kb, 0, none⟩) 2 kc] 32 (0, 0)) ∧ TenC V kb [.int .i64 x0, .int .i64 x1, .string x2, .slice xA xn xc, .slice XA XN XC, .int .i64 y0, .int .i64 y1, .string y2, .slice yA yn yc, .slice YA YN YC]) (by kernel_rfl) ⟨heap_on (below_drew wb) HE2.out.hS, heap_on (below_drew wb) HG2.out, HT2.out.on (below_drew wb)⟩ ?_
  intro hHeld
  have HBd2 := Lib.hid (HB2.out.on (below_drew wb))
  have HEd2 := Lib.hid (HE2.out.on (below_drew wb))
  have HL3 := Lib.hid (HL2.out.trans ((below_drew wb).mono (Nat.le_trans HBl.out HL2.out.size)))
  have HK3 := Lib.hid (HK2.out.trans (BK.of (b := b) (below_drew wb)))
  have HAy5 : Hid (AtT wb.drew _) := Lib.hid (AtT.on _ HAy4.out (fun k hk => (below_drew wb).block k (AtT.lt _ HAy4.out k hk)) (below_drew wb).size)
  clear HB2 HE2 HL2 HK2 HAy4 HG2 HT2
  generalize wb.drew = we at hHeld HBd2 HEd2 HL3 HK3 HAy5 ⊢
  have HSy := Lib.hid (HY.out B b Wa Sa Ba (l ++ x ++ [32, 45, 32]) we HBd2.out (by have := HLn.out; simp; omega) (Nat.le_trans HBl.out HL3.out.size) HEd2.out HAy5.out)
  rw [HYe.out] at HSy
  (refine takeH (i := 0) (v := ?_) rfl (by kernel_rfl) (by kernel_rfl) (by kernel_rfl) (fun _ _ _ h => h) (Or.inl ⟨by rfl, ?_⟩) (by assumption) ?_; rotate_left; (focus ((intro wS hSw); (try dsimp only at hSw); obtain ⟨⟨s0, _⟩, ⟨r0, r1, r2, r3, r4⟩, c0, c1, c2, c3, c4, c5, c6, c7, c8, c9⟩ := And.intro (one_cell hSw.1) (And.intro (row5c hSw.2.1) (ten_cells hSw.2.2)); go_simp; (try with_reducible rfl); done)); (try simp only [Act.put, List.setIfInBounds_toArray, List.set_cons_zero, List.set_cons_succ]))
  (refine takeH (i := 1) (v := ?_) rfl (by kernel_rfl) (by kernel_rfl) (by kernel_rfl) (fun _ _ _ h => h) (Or.inl ⟨by rfl, ?_⟩) (by assumption) ?_; rotate_left; (focus ((intro wS hSw); (try dsimp only at hSw); obtain ⟨⟨s0, _⟩, ⟨r0, r1, r2, r3, r4⟩, c0, c1, c2, c3, c4, c5, c6, c7, c8, c9⟩ := And.intro (one_cell hSw.1) (And.intro (row5c hSw.2.1) (ten_cells hSw.2.2)); go_simp; (try with_reducible rfl); done)); (try simp only [Act.put, List.setIfInBounds_toArray, List.set_cons_zero, List.set_cons_succ]))
  (refine takeH (i := 2) (v := ?_) rfl (by kernel_rfl) (by kernel_rfl) (by kernel_rfl) (fun _ _ _ h => h) (Or.inl ⟨by rfl, ?_⟩) (by assumption) ?_; rotate_left; (focus ((intro wS hSw); (try dsimp only at hSw); obtain ⟨⟨s0, _⟩, ⟨r0, r1, r2, r3, r4⟩, c0, c1, c2, c3, c4, c5, c6, c7, c8, c9⟩ := And.intro (one_cell hSw.1) (And.intro (row5c hSw.2.1) (ten_cells hSw.2.2)); go_simp; (try with_reducible rfl); done)); (try simp only [Act.put, List.setIfInBounds_toArray, List.set_cons_zero, List.set_cons_succ]))
  (refine takeH (i := 3) (v := ?_) rfl (by kernel_rfl) (by kernel_rfl) (by kernel_rfl) (fun _ _ _ h => h) (Or.inl ⟨by rfl, ?_⟩) (by assumption) ?_; rotate_left; (focus ((intro wS hSw); (try dsimp only at hSw); obtain ⟨⟨s0, _⟩, ⟨r0, r1, r2, r3, r4⟩, c0, c1, c2, c3, c4, c5, c6, c7, c8, c9⟩ := And.intro (one_cell hSw.1) (And.intro (row5c hSw.2.1) (ten_cells hSw.2.2)); go_simp; (try with_reducible rfl); done)); (try simp only [Act.put, List.setIfInBounds_toArray, List.set_cons_zero, List.set_cons_succ]))
  (refine takeH (i := 4) (v := ?_) rfl (by kernel_rfl) (by kernel_rfl) (by kernel_rfl) (fun _ _ _ h => h) (Or.inl ⟨by rfl, ?_⟩) (by assumption) ?_; rotate_left; (focus ((intro wS hSw); (try dsimp only at hSw); obtain ⟨⟨s0, _⟩, ⟨r0, r1, r2, r3, r4⟩, c0, c1, c2, c3, c4, c5, c6, c7, c8, c9⟩ := And.intro (one_cell hSw.1) (And.intro (row5c hSw.2.1) (ten_cells hSw.2.2)); go_simp; (try with_reducible rfl); done)); (try simp only [Act.put, List.setIfInBounds_toArray, List.set_cons_zero, List.set_cons_succ]))
  refine aloneH (i := 5) rfl (by kernel_rfl) (fun K hK => ?_)
  rw [if_pos (by rfl)]
  go_simp
  refine (HSy.out).mono ?_
  rintro e w1 ⟨rfl, hbd, hb, hk⟩
  have HD2 := Lib.hid (And.intro hbd (And.intro hb hk))
  have HS2 := Lib.hid (And.intro (HBd2.out.keep hk hHeld.1 (by decide) (by decide)) (And.intro (HBd2.out.keep hk hHeld.2.1 (by decide) (by decide)) (TenC.keep hHeld.2.2 HBd2.out hk)))
  clear hbd hb hk
  go_simp
  refine hK.out _ _ (HS2.out) (fun hNew => ?_)
  clear hK K hHeld; (have hHeld := hNew); clear hNew; (try simp only [Act.put, List.setIfInBounds_toArray, List.set_cons_zero, List.set_cons_succ])
  refine wpAnyH_done (by kernel_rfl) ?_ _
  clear hHeld
  refine Stop.out ?_
  unfold Stop
  have HFin := Lib.hid (And.intro HD2.out.1 (And.intro (HL3.out.trans HD2.out.2.1) (HK3.out.trans HD2.out.2.2)))
  clear HD2 HL3 HK3 HBd2 HEd2 HAy5 HSy
  go_wp2
  first | (go_end0; exact ⟨rfl, by simpa using HFin.out.1, HFin.out.2.1, HFin.out.2.2⟩) | exact ⟨rfl, by simpa using HFin.out.1, HFin.out.2.1, HFin.out.2.2⟩
end Go.Proofs.YtpapcnogbmjpjaaGreatDoor
