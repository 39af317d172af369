/- The document's Append: where there is room. -/
import Derived.Test.YtbbgmjfmpcbpbaaJ44
import Derived.Test.YtbbgmjfmpcbpbaaJ45
import Derived.Deep.MidRow
namespace Go.Proofs.Ytbbgmjfmpcbpbaa
open Go.RowKit
set_option maxRecDepth 100000
set_option linter.unusedSimpArgs false
set_option linter.unusedVariables false

theorem writeD_64 {d : DiskV} {i : Int} {T : Text} (h : ∀ k, k < d.many → (d.S k).length = 64) : ∀ k, k < (writeD d i T).many → ((writeD d i T).S k).length = 64 := by
  intro k hk
  rw [writeD_many] at hk
  have lay : ∀ m : Text, ((d.lay i.toNat m).S k).length = 64 := fun m => by
    unfold DiskV.lay
    show (if k = i.toNat then overP (d.S i.toNat) m else d.S k).length = 64
    by_cases q : k = i.toNat
    · rw [if_pos q, ← q]; exact overP_len (h k hk)
    · rw [if_neg q]; exact h k hk
  unfold writeD
  split
  · exact h k hk
  · split
    · exact h k hk
    · split
      · exact lay _
      · exact lay _
theorem SecsAt.turn {w w' : World} {A : Option Addr} {c g0 : Nat} {L : List Text} (h : SecsAt w A c L) (hs : w.heap.size ≤ w'.heap.size) (hk : ∀ k, k < w.heap.size → k ≠ g0 → w'.heap[k]? = w.heap[k]?) (hg : ∀ g, A = some ⟨g, 0, none⟩ → g ≠ g0)
    {cs : Array Value} {v0 : Value} {t : TypeId} (h6 : w.heap[g0]? = some (.cells cs t (0, 0))) (h0 : cs[0]? = some v0) (hv : ∀ k x, v0 ≠ .int k x) : SecsAt w' A c L := by
  rcases h with h | ⟨g, e, h, h'⟩
  · exact .inl h
  · refine .inr ⟨g, e, fun j hj => ?_, h'⟩
    obtain ⟨b, cb, q1, q2, q3, q4, q5, q6⟩ := h j hj
    have hb : b ≠ g0 := by
      rintro rfl
      have hx := (cell_of_row _ _ 0 _ _ _ h6).trans h0
      have hy := q4 0 (cellOf L[j][0]) (by rw [List.getElem?_map, List.getElem?_eq_getElem q6]; rfl)
      rw [Nat.zero_add, hx] at hy
      exact hv _ _ (Option.some.inj hy)
    have hgl := block_lt_of_cell q1
    exact ⟨b, cb, (World.cell?_of_block (hk g hgl (hg g e))).trans q1, q2, q3, fun i u hu => (World.cell?_of_block (hk b q5 hb)).trans (q4 i u hu), Nat.lt_of_lt_of_le q5 hs, q6⟩
theorem mid5 {W : World} {b g m c : Nat} {af tr : Int} {dd : Bool} {wv : Int} {n t : Nat} {q : Bool} {T : TypeId} (h : W.heap[b]? = some (.cells (jQ g c m af tr dd wv n t q).toArray T (0, 0))) : W.rangeAt b 0 [.slice (some ⟨g, 0, none⟩) m c, .int .i64 af, .int .i64 tr, .bool dd, .int .i64 wv] := fun j v hv => by
  match j with
  | 0 => simp at hv; subst hv; rw [cell_of_row W b 0 _ _ _ h]; rfl
  | 1 => simp at hv; subst hv; rw [cell_of_row W b 1 _ _ _ h]; rfl
  | 2 => simp at hv; subst hv; rw [cell_of_row W b 2 _ _ _ h]; rfl
  | 3 => simp at hv; subst hv; rw [cell_of_row W b 3 _ _ _ h]; rfl
  | 4 => simp at hv; subst hv; rw [cell_of_row W b 4 _ _ _ h]; rfl
  | j + 5 => simp at hv
/-- the document's journal on its way -/
def PutJ (w : World) (d : DiskV) (n t : Nat) (L : List Text) (g6 c6 k : Nat) (W : World) : Prop := ∃ d1 g1 c1 tr1, W.heap[w.heap.size]? = some (.cells (jQ g1 c1 d1.many (aftR d1) tr1 d1.dead d1.writes n t false).toArray 70 (0, 0)) ∧
  W.heap[w.heap.size + 1]? = some (.cells #[.slice none 0 0, .int .i64 0, .int .i64 0, .bool false, .int .i64 0, .int .i64 0, .int .i64 0, .bool false] 70 (0, 0)) ∧
  RefIs W g1 c1 tr1 d1 ∧ SecsAt W (some ⟨g6, 0, none⟩) c6 L ∧ Below w.heap.size w W ∧ OnP d t L k d1 ∧ (∀ j, j < d1.many → (d1.S j).length = 64)
abbrev put5J (w : World) (b : Nat) (v0 v1 v2 v3 v4 : Value) : World := ((((w.setCell ⟨b, 0, none⟩ v0).setCell ⟨b, 1, none⟩ v1).setCell ⟨b, 2, none⟩ v2).setCell ⟨b, 3, none⟩ v3).setCell ⟨b, 4, none⟩ v4
theorem putJ_row {w : World} {b g m c : Nat} {af tr : Int} {dd : Bool} {wv : Int} {n t : Nat} {q : Bool} {T : TypeId} (h : w.heap[b]? = some (.cells (jQ g c m af tr dd wv n t q).toArray T (0, 0))) (v0 v1 v2 v3 v4 : Value) :
    (put5J w b v0 v1 v2 v3 v4).heap[b]? = some (.cells #[v0, v1, v2, v3, v4, .int .i64 n, .int .i64 t, .bool q] T (0, 0)) := by
  have h0 := heap_setCell_same w b 0 _ T v0 h
  have h1 := heap_setCell_same _ b 1 _ T v1 h0
  have h2 := heap_setCell_same _ b 2 _ T v2 h1
  have h3 := heap_setCell_same _ b 3 _ T v3 h2
  exact heap_setCell_same _ b 4 _ T v4 h3
theorem putJ_far {w : World} {b k : Nat} {o : Obj} (h : w.heap[k]? = some o) (hk : k ≠ b) (v0 v1 v2 v3 v4 : Value) : (put5J w b v0 v1 v2 v3 v4).heap[k]? = some o :=
  (heap_setCell_other _ ⟨b, 4, none⟩ k v4 hk).trans ((heap_setCell_other _ ⟨b, 3, none⟩ k v3 hk).trans ((heap_setCell_other _ ⟨b, 2, none⟩ k v2 hk).trans ((heap_setCell_other _ ⟨b, 1, none⟩ k v1 hk).trans ((heap_setCell_other _ ⟨b, 0, none⟩ k v0 hk).trans h))))
theorem putJ_secs {w : World} {b g6 c6 g m c : Nat} {L : List Text} {af tr : Int} {dd : Bool} {wv : Int} {n t : Nat} {q : Bool} {T : TypeId} (hs : SecsAt w (some ⟨g6, 0, none⟩) c6 L) (h : w.heap[b]? = some (.cells (jQ g c m af tr dd wv n t q).toArray T (0, 0))) (hg : g6 ≠ b) (v0 v1 v2 v3 v4 : Value) :
    SecsAt (put5J w b v0 v1 v2 v3 v4) (some ⟨g6, 0, none⟩) c6 L :=
  hs.turn (g0 := b) (by simp) (fun k _ hk => (heap_setCell_other _ ⟨b, 4, none⟩ k v4 hk).trans ((heap_setCell_other _ ⟨b, 3, none⟩ k v3 hk).trans ((heap_setCell_other _ ⟨b, 2, none⟩ k v2 hk).trans ((heap_setCell_other _ ⟨b, 1, none⟩ k v1 hk).trans (heap_setCell_other _ ⟨b, 0, none⟩ k v0 hk)))))
    (fun g e => by injection e with e; injection e with e; rw [← e]; exact hg) h (v0 := .slice (some ⟨g, 0, none⟩) m c) rfl (fun k x e => by cases e)
theorem chg1J (w : World) (b i : Nat) (v : Value) : ChgD w (w.setCell ⟨b, i, none⟩ v) b b := ⟨rfl, rfl, rfl, by simp, fun k _ h _ => heap_setCell_other _ ⟨b, i, none⟩ k v h⟩
theorem bne_tJ {a b : Int} (h : ¬ a = b) : (a != b) = true := by simp [h]
theorem below_any0 {B : Nat} {a b c : World} (h : Below B a b) (k : Below b.heap.size b c) (hB : B ≤ b.heap.size := by exact Nat.le_trans (Nat.le_refl _) (Below.size h)) : Below B a c := h.trans (k.mono hB)
theorem wrapJ (x : Int) (h : -9000000000000000000 ≤ x) (h2 : x ≤ 9000000000000000000) : wrap64 x = x := by unfold wrap64; omega
/-- what appending leaves on the document's side -/
def AppR (w : World) (n t m : Nat) (x : DiskV × Int) (e : Ending) (w' : World) : Prop := ∃ g2 c2 tr2, RefIs w' g2 c2 tr2 x.1 ∧ Below w.heap.size w w' ∧
  ((x.2 = 0 ∧ e = .returned (.tuple #[.agg (jQ g2 c2 x.1.many (aftR x.1) tr2 x.1.dead x.1.writes (n + 1) (t + m) false).toArray, .int .i64 ((n + 1 : Nat) : Int), .int .i64 0])) ∨
   (x.2 ≠ 0 ∧ e = .returned (.tuple #[.agg (jQ g2 c2 x.1.many (aftR x.1) tr2 x.1.dead x.1.writes n t true).toArray, .int .i64 0, .int .i64 x.2])))
set_option maxHeartbeats 4000000 in
theorem ref_japp_put (w : World) (g c : Nat) (tr : Int) (d : DiskV) (n t : Nat) (b : Text) (A : Option Addr) (cp : Nat) (h : RefIs w g c tr d) (hok : OkD d) (hm : d.many ≤ 1000) (hm1 : 1 ≤ d.many) (hwr : d.writes ≤ 1000000) (h64 : ∀ k, k < d.many → (d.S k).length = 64)
    (hn : n ≤ 100000) (ht : t ≤ d.many) (h1 : 1 ≤ b.length) (hb : b.length ≤ 1000) (hcc : b.length ≤ cp) (hT : Txt w A b) (hh : headOk (n + 1 : Nat) b.length = true) (hroom : manyC b + 2 ≤ d.many - t) :
    Calls Try.prog 37 #[.agg (jQ g c d.many (aftR d) tr d.dead d.writes n t false).toArray, .slice A b.length cp] w (AppR w n t (manyC b + 2) (putF d t (pagesT (n + 1) b))) := by
  obtain ⟨L, hLL⟩ : ∃ L, L = pagesT (n + 1) b := ⟨_, rfl⟩
  have hLl : L.length = manyC b + 2 := by rw [hLL, pagesT_len]
  have hL64 : ∀ T ∈ L, T.length = 64 := by rw [hLL]; exact pages_64 (n + 1) b hh
  obtain ⟨lp, hlp⟩ : ∃ lp, lp = L.length := ⟨_, rfl⟩
  have HP : Hid (∀ W, Below w.heap.size w W → Calls Try.prog 26 #[.int .i64 ((n : Int) + 1), .slice A b.length cp] W fun e w' => ∃ g6 c6, e = .returned (.tuple #[.slice (some ⟨g6, 0, none⟩) lp c6, .int .i64 0]) ∧ SecsAt w' (some ⟨g6, 0, none⟩) c6 L ∧ W.heap.size ≤ g6 ∧ Below W.heap.size W w') := Lib.hid (fun W hb2 => by
    refine (ref_pages_yes (n + 1) b A cp W (by omega) (by omega) h1 (by omega) hcc (hT.below hb2)).mono ?_
    rintro e w' ⟨g6, c6, h, ho, h3⟩
    rw [← hLL] at h ho
    obtain ⟨A4, c4, e4, hs⟩ := ho.secs
    injection e4 with e5 e6 e7
    subst e5 e7
    obtain ⟨g7, c7, e8, hB, _⟩ := ho.form (by rw [hLl]; omega)
    injection e8 with e9
    injection e9 with e9
    injection e9 with e9
    subst e9
    exact ⟨g6, c6, by rw [hlp]; exact h, hs, hB, h3⟩)
  rw [← hLL, ← hLl, ← hlp]
  have HLp := Lib.hid hlp
  have HL64 := Lib.hid hL64
  have hn1 : (n : Int) ≤ 100000 := by omega
  have hw1 : wrap64 ((d.many : Int) - (t : Int)) = (d.many : Int) - (t : Int) := by unfold wrap64; omega
  have hgt : ¬ (d.many : Int) - (t : Int) < (lp : Int) := by omega
  have HM := Lib.hid (And.intro hm (And.intro hm1 (And.intro hwr (And.intro hn (show t + lp ≤ d.many by omega)))))
  have HI0 : Hid (OnP d t L 0 d ∧ (∀ k, k < d.many → (d.S k).length = 64)) := Lib.hid ⟨OnP.start hok, h64⟩
  have HRf := Lib.hid h
  obtain ⟨R, hR⟩ : ∃ R, R = putF d t L := ⟨_, rfl⟩
  rw [← hR]
  have HRr := Lib.hid hR
  have e7 : (jQ g c d.many (aftR d) tr d.dead d.writes n t false)[7]? = some (.bool false) := rfl
  have e5 : (jQ g c d.many (aftR d) tr d.dead d.writes n t false)[5]? = some (.int .i64 n) := rfl
  clear hb hT hn hm ht hroom hlp h1 hcc hLL hLl hL64 h hok hm1 hwr h64 hR hh
  have q1 := heap_alloc_new w (.cells (jQ g c d.many (aftR d) tr d.dead d.writes n t false).toArray 70)
  have q2 := heap_alloc_new (w.alloc (.cells (jQ g c d.many (aftR d) tr d.dead d.writes n t false).toArray 70)) (.cells #[Value.slice none 0 0, Value.int IntKind.i64 0, Value.int IntKind.i64 0, Value.bool false, Value.int IntKind.i64 0, Value.int IntKind.i64 0, Value.int IntKind.i64 0, Value.bool false] 70)
  rw [World.size_alloc] at q2
  have HX1 := Lib.hid (heap_on (below_alloc _ (.cells #[Value.slice none 0 0, Value.int IntKind.i64 0, Value.int IntKind.i64 0, Value.bool false, Value.int IntKind.i64 0, Value.int IntKind.i64 0, Value.int IntKind.i64 0, Value.bool false] 70)) q1)
  have HX2 := Lib.hid q2
  have HB0 := Lib.hid (below_then (below_alloc w (.cells (jQ g c d.many (aftR d) tr d.dead d.writes n t false).toArray 70)) (below_alloc _ (.cells #[Value.slice none 0 0, Value.int IntKind.i64 0, Value.int IntKind.i64 0, Value.bool false, Value.int IntKind.i64 0, Value.int IntKind.i64 0, Value.int IntKind.i64 0, Value.bool false] 70)))
  clear q1 q2
  go_enter Try.func37, Try.ntmps37
  go_wp2_with (first
    | (go_at_call 26; refine (HP.out _ HB0.out).mono ?_; rintro e w1 ⟨g6, c6, rfl, hs, hg6, hb⟩; have HY1 := Lib.hid (heap_on hb HX1.out); have HY2 := Lib.hid (heap_on hb HX2.out); have HB1 := Lib.hid (below_then HB0.out hb); have HS1 := Lib.hid hs; have HG6 : Hid (w.heap.size + 1 < g6) := Lib.hid (by simp at hg6; omega); clear hb hs hg6; refine Stop.out ?_))
  unfold Stop
  clear e7 e5 HX1 HX2
  have c0 : w1.cell? ⟨w.heap.size, 0, none⟩ = some (.slice (some ⟨g, 0, none⟩) d.many c) := (cell_of_row w1 w.heap.size 0 _ _ _ HY1.out).trans rfl
  have c6' : w1.cell? ⟨w.heap.size, 6, none⟩ = some (.int .i64 t) := (cell_of_row w1 w.heap.size 6 _ _ _ HY1.out).trans rfl
  have HI1 : Hid (PutJ w d n t L g6 c6 0 w1) := Lib.hid ⟨d, g, c, tr, HY1.out, HY2.out, HRf.out.below HB1.out, HS1.out, HB1.out, HI0.out.1, HI0.out.2⟩
  go_wp2_with fail
  clear c0 c6' hgt hw1 HP HB0 HI0 HRf HY1 HY2 HB1 HS1
  go_loopw [9] (fun i wr => ∃ k : Nat, k ≤ lp ∧ i = .int .i64 (k : Nat) ∧ Hid (PutJ w d n t L g6 c6 k wr)) (fun i _ => roundsLeft lp i)
  case atStart => exact ⟨0, Nat.zero_le _, rfl, HI1⟩
  case round =>
    obtain ⟨k, hk, rfl, HI⟩ := hrel
    clear HI1
    obtain ⟨d1, g1, c1, tr1, q1, q2, q3, q4, q5, q6, q7⟩ := HI.out
    have HJr := Lib.hid q1
    have HZr := Lib.hid q2
    have HRr1 := Lib.hid q3
    have HSr := Lib.hid q4
    have HBr := Lib.hid q5
    have HOr := Lib.hid q6
    have H6r := Lib.hid q7
    clear q1 q2 q3 q4 q5 q6 q7 HI
    have c6r : wr.cell? ⟨w.heap.size, 6, none⟩ = some (.int .i64 t) := (cell_of_row wr w.heap.size 6 _ _ _ HJr.out).trans rfl
    by_cases hlt : k < lp
    · have hlt' : (k : Int) < (lp : Int) := by omega
      obtain ⟨TK, hTK⟩ : ∃ TK, TK = L[k]'(by rw [← HLp.out]; exact hlt) := ⟨_, rfl⟩
      have HTl : Hid (TK.length = 64) := Lib.hid (by rw [hTK]; exact HL64.out _ (List.getElem_mem _))
      obtain ⟨bk, ck, hcell, -, -, hrg, hbl, -⟩ : ∃ bk ck, wr.cell? ⟨g6, k, none⟩ = some (.slice (some ⟨bk, 0, none⟩) 64 ck) ∧ 64 ≤ ck ∧ ck ≤ maxLen ∧ wr.rangeAt bk 0 (TK.map cellOf) ∧ bk < wr.heap.size ∧ 0 < TK.length := by
        rcases HSr.out with ⟨e, _⟩ | ⟨g7, e, hx, _⟩
        · cases e
        · injection e with e
          injection e with e
          subst e
          obtain ⟨bk, ck, r1, r2, r3, r4, r5, r6⟩ := hx k (by rw [← HLp.out]; exact hlt)
          rw [← hTK] at r1 r2 r4 r6
          rw [HTl.out] at r1 r2
          exact ⟨bk, ck, r1, r2, r3, r4, r5, r6⟩
      have HTk0 := Lib.hid (mid_txt hrg)
      have hwk : wrap64 ((k : Int) + 1) = (k : Int) + 1 := wrapJ _ (by omega) (by have h2 := HM.out.2.2.2.2; have h3 := HM.out.1; omega)
      have HWt : Hid (IntKind.i64.wrap ((t : Int) + (k : Int)) = (t : Int) + (k : Int)) := Lib.hid (IntWalk.i64_in _ (by have h2 := HM.out.2.2.2.2; have h3 := HM.out.1; omega))
      obtain ⟨d2, hd2⟩ : ∃ d2, d2 = writeD d1 ((t + k : Nat) : Int) TK := ⟨_, rfl⟩
      obtain ⟨ev, hev⟩ : ∃ ev, ev = writeE d1 ((t + k : Nat) : Int) TK := ⟨_, rfl⟩
      have HWr0 : Hid (∀ V, Below wr.drew.heap.size wr.drew V → Calls Try.prog 44 #[spelt g1 c1 tr1 d1, .int .i64 ((t : Int) + (k : Int)), .string ⟨TK.toArray⟩] V fun e V' => ∃ g2 c2 tr2, e = .returned (.tuple #[spelt g2 c2 tr2 d2, .int .i64 ev]) ∧ RefIs V' g2 c2 tr2 d2 ∧ Below V.heap.size V V') := Lib.hid (fun V hV => by
        rw [hd2, hev, show (t : Int) + (k : Int) = ((t + k : Nat) : Int) by omega]
        refine play_write V g1 c1 tr1 d1 _ TK ((HRr1.out.below (Below.refl _ _).drew).below hV) HOr.out.ok ?_ ?_ H6r.out
        · have h1 := HOr.out.wr
          have h2 := HM.out.2.2.1
          have h3 := HM.out.2.2.2.2
          have h4 := HM.out.1
          omega
        · rw [HOr.out.many]; exact HM.out.1)
      have HD2 : Hid (1 ≤ d2.many ∧ d2.many = d.many ∧ (∀ j, j < d2.many → (d2.S j).length = 64)) := Lib.hid (by
        rw [hd2]
        refine ⟨?_, ?_, writeD_64 H6r.out⟩
        · rw [writeD_many, HOr.out.many]; exact HM.out.2.1
        · rw [writeD_many, HOr.out.many])
      have HO2 : Hid (ev = 0 → OnP d t L (k + 1) d2) := Lib.hid (fun e => by
        rw [hd2, hTK]
        exact HOr.out.step (by rw [← HLp.out]; exact hlt) (by rw [← hTK, ← hev]; exact e))
      have HCt : Hid (ev ≠ 0 → R = (d2, ev)) := Lib.hid (fun e => by
        rw [HRr.out, hd2, hev, hTK]
        exact HOr.out.cut (by rw [← HLp.out]; exact hlt) (by rw [← hTK, ← hev]; exact e))
      have HJk := Lib.hid (And.intro hk hlt)
      have HBd : Hid (Below w.heap.size w wr.drew) := Lib.hid HBr.out.drew
      have HJd := Lib.hid (heap_on (Below.refl _ _).drew HJr.out)
      have HZd := Lib.hid (heap_on (Below.refl _ _).drew HZr.out)
      have HSd : Hid (SecsAt wr.drew (some ⟨g6, 0, none⟩) c6 L) := Lib.hid (HSr.out.on (Below.refl _ _).drew)
      have HTk := Lib.hid (HTk0.out.below (Below.refl _ _).drew)
      have HCd : Hid (wr.drew.cell? ⟨g6, k, none⟩ = some (.slice (some ⟨bk, 0, none⟩) 64 ck)) := Lib.hid hcell
      have HQ := Lib.hid (And.intro HJd.out (And.intro HCd.out (show wr.drew.cell? ⟨w.heap.size, 6, none⟩ = some (.int .i64 t) from c6r)))
      obtain ⟨dm, hdm⟩ : ∃ dm, dm = d1.many := ⟨_, rfl⟩
      obtain ⟨af, haf⟩ : ∃ af, af = aftR d1 := ⟨_, rfl⟩
      obtain ⟨dd, hdd⟩ : ∃ dd, dd = d1.dead := ⟨_, rfl⟩
      obtain ⟨wv, hwv⟩ : ∃ wv, wv = d1.writes := ⟨_, rfl⟩
      obtain ⟨dm2, hdm2⟩ : ∃ dm, dm = d2.many := ⟨_, rfl⟩
      obtain ⟨af2, haf2⟩ : ∃ af, af = aftR d2 := ⟨_, rfl⟩
      obtain ⟨dd2, hdd2⟩ : ∃ dd, dd = d2.dead := ⟨_, rfl⟩
      obtain ⟨wv2, hwv2⟩ : ∃ wv, wv = d2.writes := ⟨_, rfl⟩
      have HWr : Hid (∀ V, Below wr.drew.heap.size wr.drew V → Calls Try.prog 44 #[.agg #[.slice (some ⟨g1, 0, none⟩) dm c1, .int .i64 af, .int .i64 tr1, .bool dd, .int .i64 wv], .int .i64 ((t : Int) + (k : Int)), .string ⟨TK.toArray⟩] V fun e V' => ∃ g2 c2 tr2, e = .returned (.tuple #[.agg #[.slice (some ⟨g2, 0, none⟩) dm2 c2, .int .i64 af2, .int .i64 tr2, .bool dd2, .int .i64 wv2], .int .i64 ev]) ∧ RefIs V' g2 c2 tr2 d2 ∧ Below V.heap.size V V') := Lib.hid (by rw [hdm, haf, hdd, hwv, hdm2, haf2, hdd2, hwv2]; exact HWr0.out)
      rw [← hdm, ← haf, ← hdd, ← hwv] at HQ HJd
      have HE2 := Lib.hid (And.intro hdm2 (And.intro haf2 (And.intro hdd2 hwv2)))
      clear hd2 hev hTK hdm haf hdd hwv hdm2 haf2 hdd2 hwv2 HWr0 HTk0 HOr H6r HRr1 HSr HBr HJr HZr hcell hrg hbl c6r hk hlt
      go_wp2_with fail
      refine wp_region_held_drew (S := fun W => W.heap[w.heap.size]? = some (.cells (jQ g1 c1 dm af tr1 dd wv n t false).toArray 70 (0, 0)) ∧ W.cell? ⟨g6, k, none⟩ = some (.slice (some ⟨bk, 0, none⟩) 64 ck) ∧ W.cell? ⟨w.heap.size, 6, none⟩ = some (.int .i64 t)) (by kernel_rfl) HQ.out ?_
      intro hHeld
      clear HQ
      generalize wr.drew = wd at HBd HJd HZd HSd HTk HCd HWr hHeld ⊢
      (refine takeH (i := 0) (v := ?_) rfl (by kernel_rfl) (by kernel_rfl) (by kernel_rfl) (fun _ _ _ h => h) (Or.inl ⟨by rfl, ?_⟩) (by assumption) ?_; rotate_left; (focus ((intro wS hSw); (try dsimp only at hSw); obtain ⟨s0, s1, s2⟩ := hSw; go_simp; (try with_reducible rfl); done)); (try simp only [Act.put, List.setIfInBounds_toArray, List.set_cons_zero, List.set_cons_succ]))
      (refine takeH (i := 1) (v := (.agg [.slice (some ⟨g1, 0, none⟩) dm c1, .int .i64 af, .int .i64 tr1, .bool dd, .int .i64 wv].toArray)) rfl (by kernel_rfl) (by kernel_rfl) (by kernel_rfl) (fun _ _ _ h => h) (yieldsIf_load_mid (by rfl) 28 (.tmp 44) rfl w.heap.size 0 rfl [.slice (some ⟨g1, 0, none⟩) dm c1, .int .i64 af, .int .i64 tr1, .bool dd, .int .i64 wv] _ (fun W h => mid5 h.1) Try.underlying28 rfl (by kernel_rfl)) (by assumption) ?_; (try simp only [Act.put, List.setIfInBounds_toArray, List.set_cons_zero, List.set_cons_succ]))
      (refine takeH (i := 2) (v := ?_) rfl (by kernel_rfl) (by kernel_rfl) (by kernel_rfl) (fun _ _ _ h => h) (Or.inl ⟨by rfl, ?_⟩) (by assumption) ?_; rotate_left; (focus ((intro wS hSw); (try dsimp only at hSw); obtain ⟨s0, s1, s2⟩ := hSw; go_simp; (try with_reducible rfl); done)); (try simp only [Act.put, List.setIfInBounds_toArray, List.set_cons_zero, List.set_cons_succ]))
      (refine takeH (i := 3) (v := ?_) rfl (by kernel_rfl) (by kernel_rfl) (by kernel_rfl) (fun _ _ _ h => h) (Or.inl ⟨by rfl, ?_⟩) (by assumption) ?_; rotate_left; (focus ((intro wS hSw); (try dsimp only at hSw); obtain ⟨s0, s1, s2⟩ := hSw; go_simp; (try with_reducible rfl); done)); (try simp only [Act.put, List.setIfInBounds_toArray, List.set_cons_zero, List.set_cons_succ]))
      (refine takeH (i := 4) (v := ?_) rfl (by kernel_rfl) (by kernel_rfl) (by kernel_rfl) (fun _ _ _ h => h) (Or.inl ⟨by rfl, ?_⟩) (by assumption) ?_; rotate_left; (focus ((intro wS hSw); (try dsimp only at hSw); obtain ⟨s0, s1, s2⟩ := hSw; go_simp; (try with_reducible rfl); done)); (try simp only [Act.put, List.setIfInBounds_toArray, List.set_cons_zero, List.set_cons_succ]))
      (refine takeH (i := 5) (v := (.int .i64 ((t : Int) + (k : Int)))) rfl (by kernel_rfl) (by kernel_rfl) (by kernel_rfl) (fun _ _ _ h => h) (Or.inl ⟨by rfl, by (intro wS hSw); (try dsimp only at hSw); (obtain ⟨s0, s1, s2⟩ := hSw); go_simp; (first | done | (rw [HWt.out]; done) | (simp only [HWt.out]; done))⟩) (by assumption) ?_; (try simp only [Act.put, List.setIfInBounds_toArray, List.set_cons_zero, List.set_cons_succ]))
      (refine takeH (i := 6) (v := ?_) rfl (by kernel_rfl) (by kernel_rfl) (by kernel_rfl) (fun _ _ _ h => h) (Or.inl ⟨by rfl, ?_⟩) (by assumption) ?_; rotate_left; (focus ((intro wS hSw); (try dsimp only at hSw); obtain ⟨s0, s1, s2⟩ := hSw; go_simp; (try with_reducible rfl); done)); (try simp only [Act.put, List.setIfInBounds_toArray, List.set_cons_zero, List.set_cons_succ]))
      (refine takeH (i := 7) (v := ?_) rfl (by kernel_rfl) (by kernel_rfl) (by kernel_rfl) (fun _ _ _ h => h) (Or.inl ⟨by rfl, ?_⟩) (by assumption) ?_; rotate_left; (focus ((intro wS hSw); (try dsimp only at hSw); obtain ⟨s0, s1, s2⟩ := hSw; go_simp; (try with_reducible rfl); done)); (try simp only [Act.put, List.setIfInBounds_toArray, List.set_cons_zero, List.set_cons_succ]))
      (refine takeH (i := 8) (v := ?_) rfl (by kernel_rfl) (by kernel_rfl) (by kernel_rfl) (fun _ _ _ h => h) (Or.inl ⟨by rfl, ?_⟩) (by assumption) ?_; rotate_left; (focus ((intro wS hSw); (try dsimp only at hSw); obtain ⟨s0, s1, s2⟩ := hSw; go_simp; (try with_reducible rfl); done)); (try simp only [Act.put, List.setIfInBounds_toArray, List.set_cons_zero, List.set_cons_succ]))
      (refine takeH (i := 9) (v := ?_) rfl (by kernel_rfl) (by kernel_rfl) (by kernel_rfl) (fun _ _ _ h => h) (Or.inl ⟨by rfl, ?_⟩) (by assumption) ?_; rotate_left; (focus ((intro wS hSw); (try dsimp only at hSw); obtain ⟨s0, s1, s2⟩ := hSw; go_simp; (try with_reducible rfl); done)); (try simp only [Act.put, List.setIfInBounds_toArray, List.set_cons_zero, List.set_cons_succ]))
      refine twoH (i := 10) (i2 := 15) rfl rfl (by kernel_rfl) (fun K hK => ?_) (fun K hK => ?_)
      · rw [if_pos (by rfl)]
        refine wp_text (.tmp 53) rfl (some ⟨bk, 0, none⟩) ck 64 TK HTl.out rfl (HTk.out.below (below_same wd)) (fun e => by cases e) ?_
        have HB1 : Hid (Below wd.heap.size wd wd) := Lib.hid (Below.refl _ _)
        refine hK.out _ _ (hHeld) (fun hNew => ?_)
        clear hK K hHeld; (have hHeld := hNew); clear hNew; (try simp only [Act.put, List.setIfInBounds_toArray, List.set_cons_zero, List.set_cons_succ])
        refine twoH (i := 11) (i2 := 15) rfl rfl (by kernel_rfl) (fun K hK => ?_) (fun K hK => ?_)
        · rw [if_pos (by rfl)]
          go_simp; ((refine (HWr.out _ HB1.out).mono ?_); (rintro e w2 ⟨g2, c2, tr2, rfl, hr2, hb⟩); have HB2 := Lib.hid hb; have HR2 := Lib.hid hr2; clear hb hr2; (try go_simp))
          refine hK.out _ _ (⟨heap_on HB2.out hHeld.1, cell_on HB2.out hHeld.2.1, cell_on HB2.out hHeld.2.2⟩) (fun hNew => ?_)
          clear hK K hHeld; (have hHeld := hNew); clear hNew; (try simp only [Act.put, List.setIfInBounds_toArray, List.set_cons_zero, List.set_cons_succ])
          (refine takeH (i := 12) (v := ?_) rfl (by kernel_rfl) (by kernel_rfl) (by kernel_rfl) (fun _ _ _ h => h) (Or.inl ⟨by rfl, ?_⟩) (by assumption) ?_; rotate_left; (focus ((intro wS hSw); (try dsimp only at hSw); obtain ⟨s0, s1, s2⟩ := hSw; go_simp; (try with_reducible rfl); done)); (try simp only [Act.put, List.setIfInBounds_toArray, List.set_cons_zero, List.set_cons_succ]))
          (refine takeH (i := 13) (v := ?_) rfl (by kernel_rfl) (by kernel_rfl) (by kernel_rfl) (fun _ _ _ h => h) (Or.inl ⟨by rfl, ?_⟩) (by assumption) ?_; rotate_left; (focus ((intro wS hSw); (try dsimp only at hSw); obtain ⟨s0, s1, s2⟩ := hSw; go_simp; (try with_reducible rfl); done)); (try simp only [Act.put, List.setIfInBounds_toArray, List.set_cons_zero, List.set_cons_succ]))
          (refine takeH (i := 14) (v := ?_) rfl (by kernel_rfl) (by kernel_rfl) (by kernel_rfl) (fun _ _ _ h => h) (Or.inl ⟨by rfl, ?_⟩) (by assumption) ?_; rotate_left; (focus ((intro wS hSw); (try dsimp only at hSw); obtain ⟨s0, s1, s2⟩ := hSw; go_simp; (try with_reducible rfl); done)); (try simp only [Act.put, List.setIfInBounds_toArray, List.set_cons_zero, List.set_cons_succ]))
          refine aloneH (i := 15) rfl (by kernel_rfl) (fun K hK => ?_)
          rw [if_pos (by rfl)]
          go_simp
          have HB3 : Hid (Below w2.heap.size w2 (w2.alloc (.cells #[.slice none 0 0, .int .i64 0, .int .i64 0, .bool false, .int .i64 0] 28))) := Lib.hid (below_alloc _ _)
          have HA10 : Hid ((w2.alloc (.cells #[.slice none 0 0, .int .i64 0, .int .i64 0, .bool false, .int .i64 0] 28)).heap[w2.heap.size]? = some (.cells #[.slice none 0 0, .int .i64 0, .int .i64 0, .bool false, .int .i64 0] 28 (0, 0))) := Lib.hid (heap_alloc_new _ _)
          generalize w2.alloc (.cells #[.slice none 0 0, .int .i64 0, .int .i64 0, .bool false, .int .i64 0] 28) = wa at HB3 HA10 ⊢
          refine hK.out _ _ (⟨heap_on HB3.out hHeld.1, cell_on HB3.out hHeld.2.1, cell_on HB3.out hHeld.2.2⟩) (fun hNew => ?_)
          clear hK K hHeld; (have hHeld := hNew); clear hNew; (try simp only [Act.put, List.setIfInBounds_toArray, List.set_cons_zero, List.set_cons_succ])
          refine aloneH (i := 16) rfl (by kernel_rfl) (fun K hK => ?_)
          rw [if_pos (by rfl)]
          refine wp_store_row 28 (.tmp 10) (.tmp 56) rfl w2.heap.size rfl [.slice (some ⟨g2, 0, none⟩) dm2 c2, .int .i64 af2, .int .i64 tr2, .bool dd2, .int .i64 wv2] (by kernel_rfl) (one5 _ _ _ _ _ _ _) rfl #[.slice none 0 0, .int .i64 0, .int .i64 0, .bool false, .int .i64 0] rfl _ (heap_on (below_same wa) HA10.out) ?_
          refine hK.out _ _ (⟨(setRow_other _ _ _ _ (Nat.ne_of_lt (Nat.lt_of_lt_of_le (heapLt HJd.out) ((below_then HB1.out HB2.out)).size))).trans hHeld.1, cell_setRow (Nat.ne_of_lt (Nat.lt_of_lt_of_le (block_lt_of_cell HCd.out) ((below_then HB1.out HB2.out)).size)) hHeld.2.1, cell_setRow (Nat.ne_of_lt (Nat.lt_of_lt_of_le (heapLt HJd.out) ((below_then HB1.out HB2.out)).size)) hHeld.2.2⟩) (fun hNew => ?_)
          clear hK K hHeld; (have hHeld := hNew); clear hNew; (try simp only [Act.put])
          (refine takeH (i := 17) (v := ?_) rfl (by kernel_rfl) (by kernel_rfl) (by kernel_rfl) (fun _ _ _ h => h) (Or.inl ⟨by rfl, ?_⟩) (by assumption) ?_; rotate_left; (focus ((intro wS hSw); (try dsimp only at hSw); obtain ⟨s0, s1, s2⟩ := hSw; go_simp; (try with_reducible rfl); done)); (try simp only [Act.put, List.setIfInBounds_toArray, List.set_cons_zero, List.set_cons_succ]))
          refine wpAnyH_done (by kernel_rfl) ?_ _
          have hz := heap_on (below_same wa) HA10.out
          have hrb : Below w2.heap.size w2 wa := HB3.out
          have HT9 := Lib.hid (setRow_heap _ _ _ [.slice (some ⟨g2, 0, none⟩) dm2 c2, .int .i64 af2, .int .i64 tr2, .bool dd2, .int .i64 wv2].toArray _ _ hz)
          have HJ9 := Lib.hid hHeld.1
          have HZ9 := Lib.hid ((setRow_other _ _ _ [.slice (some ⟨g2, 0, none⟩) dm2 c2, .int .i64 af2, .int .i64 tr2, .bool dd2, .int .i64 wv2].toArray (Nat.ne_of_lt (Nat.lt_of_lt_of_le (heapLt HZd.out) ((below_then HB1.out HB2.out)).size))).trans (heap_on (below_then (below_then HB1.out HB2.out) HB3.out) HZd.out))
          have hr2 := HR2.out.below hrb
          have HR9 := Lib.hid (hr2.setRow [.slice (some ⟨g2, 0, none⟩) dm2 c2, .int .i64 af2, .int .i64 tr2, .bool dd2, .int .i64 wv2].toArray (ref_boxG hr2 HD2.out.1 hz rfl (fun s e => by cases e)))
          have HS9 := Lib.hid ((HSd.out.on (below_then (below_then HB1.out HB2.out) HB3.out)).row (u := [.slice (some ⟨g2, 0, none⟩) dm2 c2, .int .i64 af2, .int .i64 tr2, .bool dd2, .int .i64 wv2].toArray) (fun g e => by injection e with e; injection e with e; rw [← e]; exact Nat.ne_of_lt (Nat.lt_of_lt_of_le (block_lt_of_cell HCd.out) ((below_then HB1.out HB2.out)).size)) hz rfl (fun k x e => by cases e))
          have HB9 := Lib.hid (below_setRow (HBd.out.trans (((below_then (below_then HB1.out HB2.out) HB3.out)).mono HBd.out.size)) (Nat.le_trans HBd.out.size ((below_then HB1.out HB2.out)).size) [.slice (some ⟨g2, 0, none⟩) dm2 c2, .int .i64 af2, .int .i64 tr2, .bool dd2, .int .i64 wv2].toArray)
          clear hz hr2 hrb hHeld HA10 HR2 HZd HSd HBd HTk HCd HJd HWr
          generalize wa.setRow w2.heap.size [.slice (some ⟨g2, 0, none⟩) dm2 c2, .int .i64 af2, .int .i64 tr2, .bool dd2, .int .i64 wv2].toArray = w9 at HT9 HJ9 HZ9 HR9 HS9 HB9 ⊢
          obtain ⟨⟨z0, z1, z2, z3, z4⟩, _⟩ := cells5 HT9.out
          have y0 : w9.cell? ⟨w.heap.size, 0, none⟩ = some (.slice (some ⟨g1, 0, none⟩) dm c1) := (cell_of_row _ _ 0 _ _ _ HJ9.out).trans rfl
          have y1 : w9.cell? ⟨w.heap.size, 1, none⟩ = some (.int .i64 af) := (cell_of_row _ _ 1 _ _ _ HJ9.out).trans rfl
          have y2 : w9.cell? ⟨w.heap.size, 2, none⟩ = some (.int .i64 tr1) := (cell_of_row _ _ 2 _ _ _ HJ9.out).trans rfl
          have y3 : w9.cell? ⟨w.heap.size, 3, none⟩ = some (.bool dd) := (cell_of_row _ _ 3 _ _ _ HJ9.out).trans rfl
          have y4 : w9.cell? ⟨w.heap.size, 4, none⟩ = some (.int .i64 wv) := (cell_of_row _ _ 4 _ _ _ HJ9.out).trans rfl
          have e0 := frozen_of_row w9 w.heap.size 0 _ _ HJ9.out
          have e1 := frozen_of_row w9 w.heap.size 1 _ _ HJ9.out
          have e2 := frozen_of_row w9 w.heap.size 2 _ _ HJ9.out
          have e3 := frozen_of_row w9 w.heap.size 3 _ _ HJ9.out
          have e4 := frozen_of_row w9 w.heap.size 4 _ _ HJ9.out
          have hgJ : g2 ≠ w.heap.size := ref_boxG HR9.out HD2.out.1 HJ9.out (v0 := .slice (some ⟨g1, 0, none⟩) dm c1) rfl (fun s e => by cases e)
          have HJ10 := Lib.hid (putJ_row HJ9.out (.slice (some ⟨g2, 0, none⟩) dm2 c2) (.int .i64 af2) (.int .i64 tr2) (.bool dd2) (.int .i64 wv2))
          have HZ10 := Lib.hid (putJ_far HZ9.out (by omega : w.heap.size + 1 ≠ w.heap.size) (.slice (some ⟨g2, 0, none⟩) dm2 c2) (.int .i64 af2) (.int .i64 tr2) (.bool dd2) (.int .i64 wv2))
          have HR10 := Lib.hid (HR9.out.set5 hgJ (.slice (some ⟨g2, 0, none⟩) dm2 c2) (.int .i64 af2) (.int .i64 tr2) (.bool dd2) (.int .i64 wv2))
          have HS10 := Lib.hid (putJ_secs HS9.out HJ9.out (by have := HG6.out; omega) (.slice (some ⟨g2, 0, none⟩) dm2 c2) (.int .i64 af2) (.int .i64 tr2) (.bool dd2) (.int .i64 wv2))
          have HB10 := Lib.hid (set_below5 HB9.out (Nat.le_refl _) (.slice (some ⟨g2, 0, none⟩) dm2 c2) (.int .i64 af2) (.int .i64 tr2) (.bool dd2) (.int .i64 wv2))
          clear hgJ
          by_cases he : ev = 0
          · subst he
            go_wp2
            go_roundw
            case rel =>
              refine ⟨k + 1, HJk.out.2, by go_num, Lib.hid ⟨d2, g2, c2, tr2, ?_, HZ10.out, HR10.out, HS10.out, HB10.out, HO2.out rfl, HD2.out.2.2⟩⟩
              rw [← HE2.out.1, ← HE2.out.2.1, ← HE2.out.2.2.1, ← HE2.out.2.2.2]
              exact HJ10.out
            case measure => rw [hwk]; exact roundsLeft_next _ _ HJk.out.2
          · have hne : (ev != 0) = true := bne_tJ he
            have hcut := Lib.hid (HCt.out he)
            have HEv := Lib.hid he
            clear he HO2 HCt
            have HJ11 : Hid (((put5J w9 w.heap.size (.slice (some ⟨g2, 0, none⟩) dm2 c2) (.int .i64 af2) (.int .i64 tr2) (.bool dd2) (.int .i64 wv2)).setCell ⟨w.heap.size, 7, none⟩ (.bool true)).heap[w.heap.size]? = some (.cells (jQ g2 c2 dm2 af2 tr2 dd2 wv2 n t true).toArray 70 (0, 0))) := Lib.hid (heap_setCell_same _ w.heap.size 7 _ _ (.bool true) HJ10.out)
            have HZ11 := Lib.hid ((heap_setCell_other (put5J w9 w.heap.size (.slice (some ⟨g2, 0, none⟩) dm2 c2) (.int .i64 af2) (.int .i64 tr2) (.bool dd2) (.int .i64 wv2)) ⟨w.heap.size, 7, none⟩ (w.heap.size + 1) (.bool true) (by show w.heap.size + 1 ≠ w.heap.size; omega)).trans HZ10.out)
            have hgJ : g2 ≠ w.heap.size := ref_boxG HR10.out HD2.out.1 HJ10.out (v0 := .slice (some ⟨g2, 0, none⟩) dm2 c2) rfl (fun s e => by cases e)
            have hcD := chg1J (put5J w9 w.heap.size (.slice (some ⟨g2, 0, none⟩) dm2 c2) (.int .i64 af2) (.int .i64 tr2) (.bool dd2) (.int .i64 wv2)) w.heap.size 7 (.bool true)
            have HR11 := Lib.hid (RefIs.chg2 HR10.out hcD hgJ hgJ)
            clear hcD
            have HB11 := Lib.hid (HB10.out.setCell (p := ⟨w.heap.size, 7, none⟩) (Nat.le_refl _) (.bool true))
            have y7 : w9.cell? ⟨w.heap.size, 7, none⟩ = some (.bool false) := (cell_of_row _ _ 7 _ _ _ HJ9.out).trans rfl
            have e7 := frozen_of_row w9 w.heap.size 7 _ _ HJ9.out
            clear hgJ
            go_wp2_with (first
              | ((with_reducible refine wpList_load_row (o := ⟨some 63, _, _, _, _, _⟩) ?a1 70 (.tmp 2) ?a2 w.heap.size ?a3 70 (jQ g2 c2 dm2 af2 tr2 dd2 wv2 n t true).toArray (0, 0) _ HJ11.out Try.underlying70 ?a4 ?a5 ?_); (case a1 => rfl); (case a2 => rfl); (case a3 => rfl); (case a4 => rfl); (case a5 => kernel_rfl); refine Stop.out ?_))
            unfold Stop
            go_wp2_with (first
              | ((with_reducible refine wpList_store_rowK 70 (o := ⟨none, _, _, _, _, _⟩) ?b1 (.tmp 4) (.tmp 63) ?b2 (w.heap.size + 1) ?b3 (jQ g2 c2 dm2 af2 tr2 dd2 wv2 n t true) ?b4 ?b7 ?b5 #[Value.slice none 0 0, Value.int IntKind.i64 0, Value.int IntKind.i64 0, Value.bool false, Value.int IntKind.i64 0, Value.int IntKind.i64 0, Value.int IntKind.i64 0, Value.bool false] ?b6 _ HZ11.out ?_); (case b1 => rfl); (case b2 => rfl); (case b3 => rfl); (case b4 => kernel_rfl); (case b5 => rfl); (case b6 => rfl); (case b7 => exact one8Q _ _ _ _ _ _ _ _ _ _); refine Stop.out ?_))
            unfold Stop
            have hJ := setRow_heap _ _ _ (jQ g2 c2 dm2 af2 tr2 dd2 wv2 n t true).toArray _ _ HZ11.out
            go_wp2
            refine bodyPost_ret (results_cell_of3 rfl _ _ (w.heap.size + 1) _ _ _ rfl rfl rfl (load_J _ _ (jQ g2 c2 dm2 af2 tr2 dd2 wv2 n t true) rfl _ _ hJ)) rfl ?_
            unfold AppR
            rw [hcut.out]
            refine ⟨g2, c2, tr2, HR11.out.setRow _ (ref_boxG HR11.out HD2.out.1 HZ11.out (v0 := .slice none 0 0) rfl (fun s e => by cases e)), below_setRow HB11.out (by omega) _, .inr ⟨HEv.out, ?_⟩⟩
            show _ = Ending.returned (.tuple #[.agg (jQ g2 c2 d2.many (aftR d2) tr2 d2.dead d2.writes n t true).toArray, .int .i64 0, .int .i64 ev])
            rw [← HE2.out.1, ← HE2.out.2.1, ← HE2.out.2.2.1, ← HE2.out.2.2.2]
            rfl
        · rw [if_pos (by rfl)]
          go_simp
          have HB2 : Hid (Below wd.heap.size wd (wd.alloc (.cells #[.slice none 0 0, .int .i64 0, .int .i64 0, .bool false, .int .i64 0] 28))) := Lib.hid (below_alloc _ _)
          have HA10 : Hid ((wd.alloc (.cells #[.slice none 0 0, .int .i64 0, .int .i64 0, .bool false, .int .i64 0] 28)).heap[wd.heap.size]? = some (.cells #[.slice none 0 0, .int .i64 0, .int .i64 0, .bool false, .int .i64 0] 28 (0, 0))) := Lib.hid (heap_alloc_new _ _)
          generalize wd.alloc (.cells #[.slice none 0 0, .int .i64 0, .int .i64 0, .bool false, .int .i64 0] 28) = wa at HB2 HA10 ⊢
          refine hK.out _ _ (⟨heap_on HB2.out hHeld.1, cell_on HB2.out hHeld.2.1, cell_on HB2.out hHeld.2.2⟩) (fun hNew => ?_)
          clear hK K hHeld; (have hHeld := hNew); clear hNew; (try simp only [Act.put, List.setIfInBounds_toArray, List.set_cons_zero, List.set_cons_succ])
          refine aloneH (i := 11) rfl (by kernel_rfl) (fun K hK => ?_)
          rw [if_pos (by rfl)]
          go_simp; ((refine (HWr.out _ (below_then HB1.out HB2.out)).mono ?_); (rintro e w3 ⟨g2, c2, tr2, rfl, hr2, hb⟩); have HB3 := Lib.hid hb; have HR2 := Lib.hid hr2; clear hb hr2; (try go_simp))
          refine hK.out _ _ (⟨heap_on HB3.out hHeld.1, cell_on HB3.out hHeld.2.1, cell_on HB3.out hHeld.2.2⟩) (fun hNew => ?_)
          clear hK K hHeld; (have hHeld := hNew); clear hNew; (try simp only [Act.put, List.setIfInBounds_toArray, List.set_cons_zero, List.set_cons_succ])
          (refine takeH (i := 12) (v := ?_) rfl (by kernel_rfl) (by kernel_rfl) (by kernel_rfl) (fun _ _ _ h => h) (Or.inl ⟨by rfl, ?_⟩) (by assumption) ?_; rotate_left; (focus ((intro wS hSw); (try dsimp only at hSw); obtain ⟨s0, s1, s2⟩ := hSw; go_simp; (try with_reducible rfl); done)); (try simp only [Act.put, List.setIfInBounds_toArray, List.set_cons_zero, List.set_cons_succ]))
          (refine takeH (i := 13) (v := ?_) rfl (by kernel_rfl) (by kernel_rfl) (by kernel_rfl) (fun _ _ _ h => h) (Or.inl ⟨by rfl, ?_⟩) (by assumption) ?_; rotate_left; (focus ((intro wS hSw); (try dsimp only at hSw); obtain ⟨s0, s1, s2⟩ := hSw; go_simp; (try with_reducible rfl); done)); (try simp only [Act.put, List.setIfInBounds_toArray, List.set_cons_zero, List.set_cons_succ]))
          (refine takeH (i := 14) (v := ?_) rfl (by kernel_rfl) (by kernel_rfl) (by kernel_rfl) (fun _ _ _ h => h) (Or.inl ⟨by rfl, ?_⟩) (by assumption) ?_; rotate_left; (focus ((intro wS hSw); (try dsimp only at hSw); obtain ⟨s0, s1, s2⟩ := hSw; go_simp; (try with_reducible rfl); done)); (try simp only [Act.put, List.setIfInBounds_toArray, List.set_cons_zero, List.set_cons_succ]))
          refine aloneH (i := 16) rfl (by kernel_rfl) (fun K hK => ?_)
          rw [if_pos (by rfl)]
          refine wp_store_row 28 (.tmp 10) (.tmp 56) rfl wd.heap.size rfl [.slice (some ⟨g2, 0, none⟩) dm2 c2, .int .i64 af2, .int .i64 tr2, .bool dd2, .int .i64 wv2] (by kernel_rfl) (one5 _ _ _ _ _ _ _) rfl #[.slice none 0 0, .int .i64 0, .int .i64 0, .bool false, .int .i64 0] rfl _ (heap_on HB3.out HA10.out) ?_
          refine hK.out _ _ (⟨(setRow_other _ _ _ _ (Nat.ne_of_lt (Nat.lt_of_lt_of_le (heapLt HJd.out) (HB1.out).size))).trans hHeld.1, cell_setRow (Nat.ne_of_lt (Nat.lt_of_lt_of_le (block_lt_of_cell HCd.out) (HB1.out).size)) hHeld.2.1, cell_setRow (Nat.ne_of_lt (Nat.lt_of_lt_of_le (heapLt HJd.out) (HB1.out).size)) hHeld.2.2⟩) (fun hNew => ?_)
          clear hK K hHeld; (have hHeld := hNew); clear hNew; (try simp only [Act.put])
          (refine takeH (i := 17) (v := ?_) rfl (by kernel_rfl) (by kernel_rfl) (by kernel_rfl) (fun _ _ _ h => h) (Or.inl ⟨by rfl, ?_⟩) (by assumption) ?_; rotate_left; (focus ((intro wS hSw); (try dsimp only at hSw); obtain ⟨s0, s1, s2⟩ := hSw; go_simp; (try with_reducible rfl); done)); (try simp only [Act.put, List.setIfInBounds_toArray, List.set_cons_zero, List.set_cons_succ]))
          refine wpAnyH_done (by kernel_rfl) ?_ _
          have hz := heap_on HB3.out HA10.out
          have hrb : Below w3.heap.size w3 w3 := (below_same w3)
          have HT9 := Lib.hid (setRow_heap _ _ _ [.slice (some ⟨g2, 0, none⟩) dm2 c2, .int .i64 af2, .int .i64 tr2, .bool dd2, .int .i64 wv2].toArray _ _ hz)
          have HJ9 := Lib.hid hHeld.1
          have HZ9 := Lib.hid ((setRow_other _ _ _ [.slice (some ⟨g2, 0, none⟩) dm2 c2, .int .i64 af2, .int .i64 tr2, .bool dd2, .int .i64 wv2].toArray (Nat.ne_of_lt (Nat.lt_of_lt_of_le (heapLt HZd.out) (HB1.out).size))).trans (heap_on (below_then (below_then HB1.out HB2.out) HB3.out) HZd.out))
          have hr2 := HR2.out.below hrb
          have HR9 := Lib.hid (hr2.setRow [.slice (some ⟨g2, 0, none⟩) dm2 c2, .int .i64 af2, .int .i64 tr2, .bool dd2, .int .i64 wv2].toArray (ref_boxG hr2 HD2.out.1 hz rfl (fun s e => by cases e)))
          have HS9 := Lib.hid ((HSd.out.on (below_then (below_then HB1.out HB2.out) HB3.out)).row (u := [.slice (some ⟨g2, 0, none⟩) dm2 c2, .int .i64 af2, .int .i64 tr2, .bool dd2, .int .i64 wv2].toArray) (fun g e => by injection e with e; injection e with e; rw [← e]; exact Nat.ne_of_lt (Nat.lt_of_lt_of_le (block_lt_of_cell HCd.out) (HB1.out).size)) hz rfl (fun k x e => by cases e))
          have HB9 := Lib.hid (below_setRow (HBd.out.trans (((below_then (below_then HB1.out HB2.out) HB3.out)).mono HBd.out.size)) (Nat.le_trans HBd.out.size (HB1.out).size) [.slice (some ⟨g2, 0, none⟩) dm2 c2, .int .i64 af2, .int .i64 tr2, .bool dd2, .int .i64 wv2].toArray)
          clear hz hr2 hrb hHeld HA10 HR2 HZd HSd HBd HTk HCd HJd HWr
          generalize w3.setRow wd.heap.size [.slice (some ⟨g2, 0, none⟩) dm2 c2, .int .i64 af2, .int .i64 tr2, .bool dd2, .int .i64 wv2].toArray = w9 at HT9 HJ9 HZ9 HR9 HS9 HB9 ⊢
          obtain ⟨⟨z0, z1, z2, z3, z4⟩, _⟩ := cells5 HT9.out
          have y0 : w9.cell? ⟨w.heap.size, 0, none⟩ = some (.slice (some ⟨g1, 0, none⟩) dm c1) := (cell_of_row _ _ 0 _ _ _ HJ9.out).trans rfl
          have y1 : w9.cell? ⟨w.heap.size, 1, none⟩ = some (.int .i64 af) := (cell_of_row _ _ 1 _ _ _ HJ9.out).trans rfl
          have y2 : w9.cell? ⟨w.heap.size, 2, none⟩ = some (.int .i64 tr1) := (cell_of_row _ _ 2 _ _ _ HJ9.out).trans rfl
          have y3 : w9.cell? ⟨w.heap.size, 3, none⟩ = some (.bool dd) := (cell_of_row _ _ 3 _ _ _ HJ9.out).trans rfl
          have y4 : w9.cell? ⟨w.heap.size, 4, none⟩ = some (.int .i64 wv) := (cell_of_row _ _ 4 _ _ _ HJ9.out).trans rfl
          have e0 := frozen_of_row w9 w.heap.size 0 _ _ HJ9.out
          have e1 := frozen_of_row w9 w.heap.size 1 _ _ HJ9.out
          have e2 := frozen_of_row w9 w.heap.size 2 _ _ HJ9.out
          have e3 := frozen_of_row w9 w.heap.size 3 _ _ HJ9.out
          have e4 := frozen_of_row w9 w.heap.size 4 _ _ HJ9.out
          have hgJ : g2 ≠ w.heap.size := ref_boxG HR9.out HD2.out.1 HJ9.out (v0 := .slice (some ⟨g1, 0, none⟩) dm c1) rfl (fun s e => by cases e)
          have HJ10 := Lib.hid (putJ_row HJ9.out (.slice (some ⟨g2, 0, none⟩) dm2 c2) (.int .i64 af2) (.int .i64 tr2) (.bool dd2) (.int .i64 wv2))
          have HZ10 := Lib.hid (putJ_far HZ9.out (by omega : w.heap.size + 1 ≠ w.heap.size) (.slice (some ⟨g2, 0, none⟩) dm2 c2) (.int .i64 af2) (.int .i64 tr2) (.bool dd2) (.int .i64 wv2))
          have HR10 := Lib.hid (HR9.out.set5 hgJ (.slice (some ⟨g2, 0, none⟩) dm2 c2) (.int .i64 af2) (.int .i64 tr2) (.bool dd2) (.int .i64 wv2))
          have HS10 := Lib.hid (putJ_secs HS9.out HJ9.out (by have := HG6.out; omega) (.slice (some ⟨g2, 0, none⟩) dm2 c2) (.int .i64 af2) (.int .i64 tr2) (.bool dd2) (.int .i64 wv2))
          have HB10 := Lib.hid (set_below5 HB9.out (Nat.le_refl _) (.slice (some ⟨g2, 0, none⟩) dm2 c2) (.int .i64 af2) (.int .i64 tr2) (.bool dd2) (.int .i64 wv2))
          clear hgJ
          by_cases he : ev = 0
          · subst he
            go_wp2
            go_roundw
            case rel =>
              refine ⟨k + 1, HJk.out.2, by go_num, Lib.hid ⟨d2, g2, c2, tr2, ?_, HZ10.out, HR10.out, HS10.out, HB10.out, HO2.out rfl, HD2.out.2.2⟩⟩
              rw [← HE2.out.1, ← HE2.out.2.1, ← HE2.out.2.2.1, ← HE2.out.2.2.2]
              exact HJ10.out
            case measure => rw [hwk]; exact roundsLeft_next _ _ HJk.out.2
          · have hne : (ev != 0) = true := bne_tJ he
            have hcut := Lib.hid (HCt.out he)
            have HEv := Lib.hid he
            clear he HO2 HCt
            have HJ11 : Hid (((put5J w9 w.heap.size (.slice (some ⟨g2, 0, none⟩) dm2 c2) (.int .i64 af2) (.int .i64 tr2) (.bool dd2) (.int .i64 wv2)).setCell ⟨w.heap.size, 7, none⟩ (.bool true)).heap[w.heap.size]? = some (.cells (jQ g2 c2 dm2 af2 tr2 dd2 wv2 n t true).toArray 70 (0, 0))) := Lib.hid (heap_setCell_same _ w.heap.size 7 _ _ (.bool true) HJ10.out)
            have HZ11 := Lib.hid ((heap_setCell_other (put5J w9 w.heap.size (.slice (some ⟨g2, 0, none⟩) dm2 c2) (.int .i64 af2) (.int .i64 tr2) (.bool dd2) (.int .i64 wv2)) ⟨w.heap.size, 7, none⟩ (w.heap.size + 1) (.bool true) (by show w.heap.size + 1 ≠ w.heap.size; omega)).trans HZ10.out)
            have hgJ : g2 ≠ w.heap.size := ref_boxG HR10.out HD2.out.1 HJ10.out (v0 := .slice (some ⟨g2, 0, none⟩) dm2 c2) rfl (fun s e => by cases e)
            have hcD := chg1J (put5J w9 w.heap.size (.slice (some ⟨g2, 0, none⟩) dm2 c2) (.int .i64 af2) (.int .i64 tr2) (.bool dd2) (.int .i64 wv2)) w.heap.size 7 (.bool true)
            have HR11 := Lib.hid (RefIs.chg2 HR10.out hcD hgJ hgJ)
            clear hcD
            have HB11 := Lib.hid (HB10.out.setCell (p := ⟨w.heap.size, 7, none⟩) (Nat.le_refl _) (.bool true))
            have y7 : w9.cell? ⟨w.heap.size, 7, none⟩ = some (.bool false) := (cell_of_row _ _ 7 _ _ _ HJ9.out).trans rfl
            have e7 := frozen_of_row w9 w.heap.size 7 _ _ HJ9.out
            clear hgJ
            go_wp2_with (first
              | ((with_reducible refine wpList_load_row (o := ⟨some 63, _, _, _, _, _⟩) ?a1 70 (.tmp 2) ?a2 w.heap.size ?a3 70 (jQ g2 c2 dm2 af2 tr2 dd2 wv2 n t true).toArray (0, 0) _ HJ11.out Try.underlying70 ?a4 ?a5 ?_); (case a1 => rfl); (case a2 => rfl); (case a3 => rfl); (case a4 => rfl); (case a5 => kernel_rfl); refine Stop.out ?_))
            unfold Stop
            go_wp2_with (first
              | ((with_reducible refine wpList_store_rowK 70 (o := ⟨none, _, _, _, _, _⟩) ?b1 (.tmp 4) (.tmp 63) ?b2 (w.heap.size + 1) ?b3 (jQ g2 c2 dm2 af2 tr2 dd2 wv2 n t true) ?b4 ?b7 ?b5 #[Value.slice none 0 0, Value.int IntKind.i64 0, Value.int IntKind.i64 0, Value.bool false, Value.int IntKind.i64 0, Value.int IntKind.i64 0, Value.int IntKind.i64 0, Value.bool false] ?b6 _ HZ11.out ?_); (case b1 => rfl); (case b2 => rfl); (case b3 => rfl); (case b4 => kernel_rfl); (case b5 => rfl); (case b6 => rfl); (case b7 => exact one8Q _ _ _ _ _ _ _ _ _ _); refine Stop.out ?_))
            unfold Stop
            have hJ := setRow_heap _ _ _ (jQ g2 c2 dm2 af2 tr2 dd2 wv2 n t true).toArray _ _ HZ11.out
            go_wp2
            refine bodyPost_ret (results_cell_of3 rfl _ _ (w.heap.size + 1) _ _ _ rfl rfl rfl (load_J _ _ (jQ g2 c2 dm2 af2 tr2 dd2 wv2 n t true) rfl _ _ hJ)) rfl ?_
            unfold AppR
            rw [hcut.out]
            refine ⟨g2, c2, tr2, HR11.out.setRow _ (ref_boxG HR11.out HD2.out.1 HZ11.out (v0 := .slice none 0 0) rfl (fun s e => by cases e)), below_setRow HB11.out (by omega) _, .inr ⟨HEv.out, ?_⟩⟩
            show _ = Ending.returned (.tuple #[.agg (jQ g2 c2 d2.many (aftR d2) tr2 d2.dead d2.writes n t true).toArray, .int .i64 0, .int .i64 ev])
            rw [← HE2.out.1, ← HE2.out.2.1, ← HE2.out.2.2.1, ← HE2.out.2.2.2]
            rfl
      · rw [if_pos (by rfl)]
        go_simp
        have HB1 : Hid (Below wd.heap.size wd (wd.alloc (.cells #[.slice none 0 0, .int .i64 0, .int .i64 0, .bool false, .int .i64 0] 28))) := Lib.hid (below_alloc _ _)
        have HA10 : Hid ((wd.alloc (.cells #[.slice none 0 0, .int .i64 0, .int .i64 0, .bool false, .int .i64 0] 28)).heap[wd.heap.size]? = some (.cells #[.slice none 0 0, .int .i64 0, .int .i64 0, .bool false, .int .i64 0] 28 (0, 0))) := Lib.hid (heap_alloc_new _ _)
        generalize wd.alloc (.cells #[.slice none 0 0, .int .i64 0, .int .i64 0, .bool false, .int .i64 0] 28) = wa at HB1 HA10 ⊢
        refine hK.out _ _ (⟨heap_on HB1.out hHeld.1, cell_on HB1.out hHeld.2.1, cell_on HB1.out hHeld.2.2⟩) (fun hNew => ?_)
        clear hK K hHeld; (have hHeld := hNew); clear hNew; (try simp only [Act.put, List.setIfInBounds_toArray, List.set_cons_zero, List.set_cons_succ])
        refine aloneH (i := 10) rfl (by kernel_rfl) (fun K hK => ?_)
        rw [if_pos (by rfl)]
        refine wp_text (.tmp 53) rfl (some ⟨bk, 0, none⟩) ck 64 TK HTl.out rfl (HTk.out.below HB1.out) (fun e => by cases e) ?_
        have HB2 : Hid (Below wa.heap.size wa wa) := Lib.hid (Below.refl _ _)
        refine hK.out _ _ (hHeld) (fun hNew => ?_)
        clear hK K hHeld; (have hHeld := hNew); clear hNew; (try simp only [Act.put, List.setIfInBounds_toArray, List.set_cons_zero, List.set_cons_succ])
        refine aloneH (i := 11) rfl (by kernel_rfl) (fun K hK => ?_)
        rw [if_pos (by rfl)]
        go_simp; ((refine (HWr.out _ (below_then HB1.out HB2.out)).mono ?_); (rintro e w3 ⟨g2, c2, tr2, rfl, hr2, hb⟩); have HB3 := Lib.hid hb; have HR2 := Lib.hid hr2; clear hb hr2; (try go_simp))
        refine hK.out _ _ (⟨heap_on HB3.out hHeld.1, cell_on HB3.out hHeld.2.1, cell_on HB3.out hHeld.2.2⟩) (fun hNew => ?_)
        clear hK K hHeld; (have hHeld := hNew); clear hNew; (try simp only [Act.put, List.setIfInBounds_toArray, List.set_cons_zero, List.set_cons_succ])
        (refine takeH (i := 12) (v := ?_) rfl (by kernel_rfl) (by kernel_rfl) (by kernel_rfl) (fun _ _ _ h => h) (Or.inl ⟨by rfl, ?_⟩) (by assumption) ?_; rotate_left; (focus ((intro wS hSw); (try dsimp only at hSw); obtain ⟨s0, s1, s2⟩ := hSw; go_simp; (try with_reducible rfl); done)); (try simp only [Act.put, List.setIfInBounds_toArray, List.set_cons_zero, List.set_cons_succ]))
        (refine takeH (i := 13) (v := ?_) rfl (by kernel_rfl) (by kernel_rfl) (by kernel_rfl) (fun _ _ _ h => h) (Or.inl ⟨by rfl, ?_⟩) (by assumption) ?_; rotate_left; (focus ((intro wS hSw); (try dsimp only at hSw); obtain ⟨s0, s1, s2⟩ := hSw; go_simp; (try with_reducible rfl); done)); (try simp only [Act.put, List.setIfInBounds_toArray, List.set_cons_zero, List.set_cons_succ]))
        (refine takeH (i := 14) (v := ?_) rfl (by kernel_rfl) (by kernel_rfl) (by kernel_rfl) (fun _ _ _ h => h) (Or.inl ⟨by rfl, ?_⟩) (by assumption) ?_; rotate_left; (focus ((intro wS hSw); (try dsimp only at hSw); obtain ⟨s0, s1, s2⟩ := hSw; go_simp; (try with_reducible rfl); done)); (try simp only [Act.put, List.setIfInBounds_toArray, List.set_cons_zero, List.set_cons_succ]))
        refine aloneH (i := 16) rfl (by kernel_rfl) (fun K hK => ?_)
        rw [if_pos (by rfl)]
        refine wp_store_row 28 (.tmp 10) (.tmp 56) rfl wd.heap.size rfl [.slice (some ⟨g2, 0, none⟩) dm2 c2, .int .i64 af2, .int .i64 tr2, .bool dd2, .int .i64 wv2] (by kernel_rfl) (one5 _ _ _ _ _ _ _) rfl #[.slice none 0 0, .int .i64 0, .int .i64 0, .bool false, .int .i64 0] rfl _ (heap_on (below_then HB2.out HB3.out) HA10.out) ?_
        refine hK.out _ _ (⟨(setRow_other _ _ _ _ (Nat.ne_of_lt (Nat.lt_of_lt_of_le (heapLt HJd.out) ((below_same wd)).size))).trans hHeld.1, cell_setRow (Nat.ne_of_lt (Nat.lt_of_lt_of_le (block_lt_of_cell HCd.out) ((below_same wd)).size)) hHeld.2.1, cell_setRow (Nat.ne_of_lt (Nat.lt_of_lt_of_le (heapLt HJd.out) ((below_same wd)).size)) hHeld.2.2⟩) (fun hNew => ?_)
        clear hK K hHeld; (have hHeld := hNew); clear hNew; (try simp only [Act.put])
        (refine takeH (i := 17) (v := ?_) rfl (by kernel_rfl) (by kernel_rfl) (by kernel_rfl) (fun _ _ _ h => h) (Or.inl ⟨by rfl, ?_⟩) (by assumption) ?_; rotate_left; (focus ((intro wS hSw); (try dsimp only at hSw); obtain ⟨s0, s1, s2⟩ := hSw; go_simp; (try with_reducible rfl); done)); (try simp only [Act.put, List.setIfInBounds_toArray, List.set_cons_zero, List.set_cons_succ]))
        refine wpAnyH_done (by kernel_rfl) ?_ _
        have hz := heap_on (below_then HB2.out HB3.out) HA10.out
        have hrb : Below w3.heap.size w3 w3 := (below_same w3)
        have HT9 := Lib.hid (setRow_heap _ _ _ [.slice (some ⟨g2, 0, none⟩) dm2 c2, .int .i64 af2, .int .i64 tr2, .bool dd2, .int .i64 wv2].toArray _ _ hz)
        have HJ9 := Lib.hid hHeld.1
        have HZ9 := Lib.hid ((setRow_other _ _ _ [.slice (some ⟨g2, 0, none⟩) dm2 c2, .int .i64 af2, .int .i64 tr2, .bool dd2, .int .i64 wv2].toArray (Nat.ne_of_lt (Nat.lt_of_lt_of_le (heapLt HZd.out) ((below_same wd)).size))).trans (heap_on (below_then (below_then HB1.out HB2.out) HB3.out) HZd.out))
        have hr2 := HR2.out.below hrb
        have HR9 := Lib.hid (hr2.setRow [.slice (some ⟨g2, 0, none⟩) dm2 c2, .int .i64 af2, .int .i64 tr2, .bool dd2, .int .i64 wv2].toArray (ref_boxG hr2 HD2.out.1 hz rfl (fun s e => by cases e)))
        have HS9 := Lib.hid ((HSd.out.on (below_then (below_then HB1.out HB2.out) HB3.out)).row (u := [.slice (some ⟨g2, 0, none⟩) dm2 c2, .int .i64 af2, .int .i64 tr2, .bool dd2, .int .i64 wv2].toArray) (fun g e => by injection e with e; injection e with e; rw [← e]; exact Nat.ne_of_lt (Nat.lt_of_lt_of_le (block_lt_of_cell HCd.out) ((below_same wd)).size)) hz rfl (fun k x e => by cases e))
        have HB9 := Lib.hid (below_setRow (HBd.out.trans (((below_then (below_then HB1.out HB2.out) HB3.out)).mono HBd.out.size)) (Nat.le_trans HBd.out.size ((below_same wd)).size) [.slice (some ⟨g2, 0, none⟩) dm2 c2, .int .i64 af2, .int .i64 tr2, .bool dd2, .int .i64 wv2].toArray)
        clear hz hr2 hrb hHeld HA10 HR2 HZd HSd HBd HTk HCd HJd HWr
        generalize w3.setRow wd.heap.size [.slice (some ⟨g2, 0, none⟩) dm2 c2, .int .i64 af2, .int .i64 tr2, .bool dd2, .int .i64 wv2].toArray = w9 at HT9 HJ9 HZ9 HR9 HS9 HB9 ⊢
        obtain ⟨⟨z0, z1, z2, z3, z4⟩, _⟩ := cells5 HT9.out
        have y0 : w9.cell? ⟨w.heap.size, 0, none⟩ = some (.slice (some ⟨g1, 0, none⟩) dm c1) := (cell_of_row _ _ 0 _ _ _ HJ9.out).trans rfl
        have y1 : w9.cell? ⟨w.heap.size, 1, none⟩ = some (.int .i64 af) := (cell_of_row _ _ 1 _ _ _ HJ9.out).trans rfl
        have y2 : w9.cell? ⟨w.heap.size, 2, none⟩ = some (.int .i64 tr1) := (cell_of_row _ _ 2 _ _ _ HJ9.out).trans rfl
        have y3 : w9.cell? ⟨w.heap.size, 3, none⟩ = some (.bool dd) := (cell_of_row _ _ 3 _ _ _ HJ9.out).trans rfl
        have y4 : w9.cell? ⟨w.heap.size, 4, none⟩ = some (.int .i64 wv) := (cell_of_row _ _ 4 _ _ _ HJ9.out).trans rfl
        have e0 := frozen_of_row w9 w.heap.size 0 _ _ HJ9.out
        have e1 := frozen_of_row w9 w.heap.size 1 _ _ HJ9.out
        have e2 := frozen_of_row w9 w.heap.size 2 _ _ HJ9.out
        have e3 := frozen_of_row w9 w.heap.size 3 _ _ HJ9.out
        have e4 := frozen_of_row w9 w.heap.size 4 _ _ HJ9.out
        have hgJ : g2 ≠ w.heap.size := ref_boxG HR9.out HD2.out.1 HJ9.out (v0 := .slice (some ⟨g1, 0, none⟩) dm c1) rfl (fun s e => by cases e)
        have HJ10 := Lib.hid (putJ_row HJ9.out (.slice (some ⟨g2, 0, none⟩) dm2 c2) (.int .i64 af2) (.int .i64 tr2) (.bool dd2) (.int .i64 wv2))
        have HZ10 := Lib.hid (putJ_far HZ9.out (by omega : w.heap.size + 1 ≠ w.heap.size) (.slice (some ⟨g2, 0, none⟩) dm2 c2) (.int .i64 af2) (.int .i64 tr2) (.bool dd2) (.int .i64 wv2))
        have HR10 := Lib.hid (HR9.out.set5 hgJ (.slice (some ⟨g2, 0, none⟩) dm2 c2) (.int .i64 af2) (.int .i64 tr2) (.bool dd2) (.int .i64 wv2))
        have HS10 := Lib.hid (putJ_secs HS9.out HJ9.out (by have := HG6.out; omega) (.slice (some ⟨g2, 0, none⟩) dm2 c2) (.int .i64 af2) (.int .i64 tr2) (.bool dd2) (.int .i64 wv2))
        have HB10 := Lib.hid (set_below5 HB9.out (Nat.le_refl _) (.slice (some ⟨g2, 0, none⟩) dm2 c2) (.int .i64 af2) (.int .i64 tr2) (.bool dd2) (.int .i64 wv2))
        clear hgJ
        by_cases he : ev = 0
        · subst he
          go_wp2
          go_roundw
          case rel =>
            refine ⟨k + 1, HJk.out.2, by go_num, Lib.hid ⟨d2, g2, c2, tr2, ?_, HZ10.out, HR10.out, HS10.out, HB10.out, HO2.out rfl, HD2.out.2.2⟩⟩
            rw [← HE2.out.1, ← HE2.out.2.1, ← HE2.out.2.2.1, ← HE2.out.2.2.2]
            exact HJ10.out
          case measure => rw [hwk]; exact roundsLeft_next _ _ HJk.out.2
        · have hne : (ev != 0) = true := bne_tJ he
          have hcut := Lib.hid (HCt.out he)
          have HEv := Lib.hid he
          clear he HO2 HCt
          have HJ11 : Hid (((put5J w9 w.heap.size (.slice (some ⟨g2, 0, none⟩) dm2 c2) (.int .i64 af2) (.int .i64 tr2) (.bool dd2) (.int .i64 wv2)).setCell ⟨w.heap.size, 7, none⟩ (.bool true)).heap[w.heap.size]? = some (.cells (jQ g2 c2 dm2 af2 tr2 dd2 wv2 n t true).toArray 70 (0, 0))) := Lib.hid (heap_setCell_same _ w.heap.size 7 _ _ (.bool true) HJ10.out)
          have HZ11 := Lib.hid ((heap_setCell_other (put5J w9 w.heap.size (.slice (some ⟨g2, 0, none⟩) dm2 c2) (.int .i64 af2) (.int .i64 tr2) (.bool dd2) (.int .i64 wv2)) ⟨w.heap.size, 7, none⟩ (w.heap.size + 1) (.bool true) (by show w.heap.size + 1 ≠ w.heap.size; omega)).trans HZ10.out)
          have hgJ : g2 ≠ w.heap.size := ref_boxG HR10.out HD2.out.1 HJ10.out (v0 := .slice (some ⟨g2, 0, none⟩) dm2 c2) rfl (fun s e => by cases e)
          have hcD := chg1J (put5J w9 w.heap.size (.slice (some ⟨g2, 0, none⟩) dm2 c2) (.int .i64 af2) (.int .i64 tr2) (.bool dd2) (.int .i64 wv2)) w.heap.size 7 (.bool true)
          have HR11 := Lib.hid (RefIs.chg2 HR10.out hcD hgJ hgJ)
          clear hcD
          have HB11 := Lib.hid (HB10.out.setCell (p := ⟨w.heap.size, 7, none⟩) (Nat.le_refl _) (.bool true))
          have y7 : w9.cell? ⟨w.heap.size, 7, none⟩ = some (.bool false) := (cell_of_row _ _ 7 _ _ _ HJ9.out).trans rfl
          have e7 := frozen_of_row w9 w.heap.size 7 _ _ HJ9.out
          clear hgJ
          go_wp2_with (first
            | ((with_reducible refine wpList_load_row (o := ⟨some 63, _, _, _, _, _⟩) ?a1 70 (.tmp 2) ?a2 w.heap.size ?a3 70 (jQ g2 c2 dm2 af2 tr2 dd2 wv2 n t true).toArray (0, 0) _ HJ11.out Try.underlying70 ?a4 ?a5 ?_); (case a1 => rfl); (case a2 => rfl); (case a3 => rfl); (case a4 => rfl); (case a5 => kernel_rfl); refine Stop.out ?_))
          unfold Stop
          go_wp2_with (first
            | ((with_reducible refine wpList_store_rowK 70 (o := ⟨none, _, _, _, _, _⟩) ?b1 (.tmp 4) (.tmp 63) ?b2 (w.heap.size + 1) ?b3 (jQ g2 c2 dm2 af2 tr2 dd2 wv2 n t true) ?b4 ?b7 ?b5 #[Value.slice none 0 0, Value.int IntKind.i64 0, Value.int IntKind.i64 0, Value.bool false, Value.int IntKind.i64 0, Value.int IntKind.i64 0, Value.int IntKind.i64 0, Value.bool false] ?b6 _ HZ11.out ?_); (case b1 => rfl); (case b2 => rfl); (case b3 => rfl); (case b4 => kernel_rfl); (case b5 => rfl); (case b6 => rfl); (case b7 => exact one8Q _ _ _ _ _ _ _ _ _ _); refine Stop.out ?_))
          unfold Stop
          have hJ := setRow_heap _ _ _ (jQ g2 c2 dm2 af2 tr2 dd2 wv2 n t true).toArray _ _ HZ11.out
          go_wp2
          refine bodyPost_ret (results_cell_of3 rfl _ _ (w.heap.size + 1) _ _ _ rfl rfl rfl (load_J _ _ (jQ g2 c2 dm2 af2 tr2 dd2 wv2 n t true) rfl _ _ hJ)) rfl ?_
          unfold AppR
          rw [hcut.out]
          refine ⟨g2, c2, tr2, HR11.out.setRow _ (ref_boxG HR11.out HD2.out.1 HZ11.out (v0 := .slice none 0 0) rfl (fun s e => by cases e)), below_setRow HB11.out (by omega) _, .inr ⟨HEv.out, ?_⟩⟩
          show _ = Ending.returned (.tuple #[.agg (jQ g2 c2 d2.many (aftR d2) tr2 d2.dead d2.writes n t true).toArray, .int .i64 0, .int .i64 ev])
          rw [← HE2.out.1, ← HE2.out.2.1, ← HE2.out.2.2.1, ← HE2.out.2.2.2]
          rfl
    ·
      have hge : ¬ (k : Int) < (lp : Int) := by omega
      obtain rfl : k = lp := by omega
      have HDn : Hid (R = (d1, 0)) := Lib.hid (by
        rw [HRr.out]
        have h3 := HOr.out
        rw [HLp.out] at h3
        exact h3.done)
      have HM1 : Hid (1 ≤ d1.many) := Lib.hid (by rw [HOr.out.many]; exact HM.out.2.1)
      have hwt : wrap64 ((t : Int) + (k : Int)) = ((t + k : Nat) : Int) := by
        rw [wrapJ _ (by omega) (by have h2 := HM.out.2.2.2.2; have h3 := HM.out.1; omega)]
        omega
      have hwn : wrap64 ((n : Int) + 1) = ((n + 1 : Nat) : Int) := by
        rw [wrapJ _ (by omega) (by omega)]
        omega
      obtain ⟨dm, hdm⟩ : ∃ dm, dm = d1.many := ⟨_, rfl⟩
      obtain ⟨af, haf⟩ : ∃ af, af = aftR d1 := ⟨_, rfl⟩
      obtain ⟨dd, hdd⟩ : ∃ dd, dd = d1.dead := ⟨_, rfl⟩
      obtain ⟨wv, hwv⟩ : ∃ wv, wv = d1.writes := ⟨_, rfl⟩
      rw [← hdm, ← haf, ← hdd, ← hwv] at HJr
      have HE1 := Lib.hid (And.intro hdm (And.intro haf (And.intro hdd hwv)))
      have c5r : wr.cell? ⟨w.heap.size, 5, none⟩ = some (.int .i64 n) := (cell_of_row wr w.heap.size 5 _ _ _ HJr.out).trans rfl
      have f5r := frozen_of_row wr w.heap.size 5 _ _ HJr.out
      have f6r := frozen_of_row wr w.heap.size 6 _ _ HJr.out
      obtain ⟨t2, ht2⟩ : ∃ t2 : Nat, t2 = t + k := ⟨_, rfl⟩
      obtain ⟨n2, hn2⟩ : ∃ n2 : Nat, n2 = n + 1 := ⟨_, rfl⟩
      rw [← ht2] at hwt
      rw [← hn2] at hwn
      have hgJ : g1 ≠ w.heap.size := ref_boxG HRr1.out HM1.out HJr.out (v0 := .slice (some ⟨g1, 0, none⟩) dm c1) rfl (fun s e => by cases e)
      have h5 := heap_setCell_same wr w.heap.size 6 _ _ (.int .i64 (t2 : Nat)) HJr.out
      have HJ2 : Hid (((wr.setCell ⟨w.heap.size, 6, none⟩ (.int .i64 (t2 : Nat))).setCell ⟨w.heap.size, 5, none⟩ (.int .i64 (n2 : Nat))).heap[w.heap.size]? = some (.cells (jQ g1 c1 dm af tr1 dd wv n2 t2 false).toArray 70 (0, 0))) := Lib.hid (heap_setCell_same _ w.heap.size 5 _ _ (.int .i64 (n2 : Nat)) h5)
      have HC2 : ChgD wr ((wr.setCell ⟨w.heap.size, 6, none⟩ (.int .i64 (t2 : Nat))).setCell ⟨w.heap.size, 5, none⟩ (.int .i64 (n2 : Nat))) w.heap.size w.heap.size := ⟨rfl, rfl, rfl, by simp, fun q _ h _ => (heap_setCell_other _ ⟨w.heap.size, 5, none⟩ q (.int .i64 (n2 : Nat)) h).trans (heap_setCell_other _ ⟨w.heap.size, 6, none⟩ q (.int .i64 (t2 : Nat)) h)⟩
      have HZ2 := Lib.hid ((HC2.block (w.heap.size + 1) (heapLt HZr.out) (by omega) (by omega)).trans HZr.out)
      have HR2 := Lib.hid (HRr1.out.chg2 HC2 hgJ hgJ)
      have HB2 := Lib.hid ((HBr.out.setCell (p := ⟨w.heap.size, 6, none⟩) (Nat.le_refl _) (.int .i64 (t2 : Nat))).setCell (p := ⟨w.heap.size, 5, none⟩) (Nat.le_refl _) (.int .i64 (n2 : Nat)))
      have HNT := Lib.hid (And.intro hn2 ht2)
      clear hn1 h5 HC2 hgJ hdm haf hdd hwv hn2 ht2 HRr1 HSr HBr HOr H6r HZr hk hlt
      go_wp2_with fail
      have hx5 : ((wr.setCell ⟨w.heap.size, 6, none⟩ (.int .i64 (t2 : Nat))).setCell ⟨w.heap.size, 5, none⟩ (.int .i64 (n2 : Nat))).drew.cell? ⟨w.heap.size, 5, none⟩ = some (.int .i64 (n2 : Nat)) := (cell_of_row _ _ 5 _ _ _ HJ2.out).trans rfl
      have HBd := Lib.hid HB2.out.drew
      have HZd := Lib.hid (heap_on (Below.refl _ _).drew HZ2.out)
      have HRd := Lib.hid (HR2.out.below (Below.refl _ _).drew)
      refine wp_region_held_drew (S := fun W => W.heap[w.heap.size]? = some (.cells (jQ g1 c1 dm af tr1 dd wv n2 t2 false).toArray 70 (0, 0)) ∧ W.cell? ⟨w.heap.size, 5, none⟩ = some (.int .i64 (n2 : Nat))) (by kernel_rfl) ⟨HJ2.out, hx5⟩ ?_
      intro hHeld
      clear hx5 HB2 HZ2 HR2 HJ2 HJr c5r c6r f5r f6r
      generalize ((wr.setCell ⟨w.heap.size, 6, none⟩ (.int .i64 (t2 : Nat))).setCell ⟨w.heap.size, 5, none⟩ (.int .i64 (n2 : Nat))).drew = wd at HBd HZd HRd hHeld ⊢
      (refine takeH (i := 0) (v := (.agg (jQ g1 c1 dm af tr1 dd wv n2 t2 false).toArray)) rfl (by kernel_rfl) (by kernel_rfl) (by kernel_rfl) (fun _ _ _ h => h) (yieldsIf_load_rowE (by rfl) 70 (.tmp 2) rfl w.heap.size rfl 70 (jQ g1 c1 dm af tr1 dd wv n2 t2 false).toArray (0, 0) _ (fun W h => h.1) Try.underlying70 rfl (by kernel_rfl)) (by assumption) ?_; (try simp only [Act.put, List.setIfInBounds_toArray, List.set_cons_zero, List.set_cons_succ]))
      (refine takeH (i := 1) (v := ?_) rfl (by kernel_rfl) (by kernel_rfl) (by kernel_rfl) (fun _ _ _ h => h) (Or.inl ⟨by rfl, ?_⟩) (by assumption) ?_; rotate_left; (focus ((intro wS hSw); (try dsimp only at hSw); obtain ⟨s0, s1⟩ := hSw; go_simp; (try with_reducible rfl); done)); (try simp only [Act.put, List.setIfInBounds_toArray, List.set_cons_zero, List.set_cons_succ]))
      (refine takeH (i := 2) (v := ?_) rfl (by kernel_rfl) (by kernel_rfl) (by kernel_rfl) (fun _ _ _ h => h) (Or.inl ⟨by rfl, ?_⟩) (by assumption) ?_; rotate_left; (focus ((intro wS hSw); (try dsimp only at hSw); obtain ⟨s0, s1⟩ := hSw; go_simp; (try with_reducible rfl); done)); (try simp only [Act.put, List.setIfInBounds_toArray, List.set_cons_zero, List.set_cons_succ]))
      refine aloneH (i := 3) rfl (by kernel_rfl) (fun K hK => ?_)
      rw [if_pos (by rfl)]
      refine wp_store_row 70 (.tmp 4) (.tmp 75) rfl (w.heap.size + 1) rfl (jQ g1 c1 dm af tr1 dd wv n2 t2 false) (by kernel_rfl) (one8Q _ _ _ _ _ _ _ _ _ _) rfl #[Value.slice none 0 0, Value.int IntKind.i64 0, Value.int IntKind.i64 0, Value.bool false, Value.int IntKind.i64 0, Value.int IntKind.i64 0, Value.int IntKind.i64 0, Value.bool false] rfl _ HZd.out ?_
      refine hK.out _ _ (⟨(setRow_other _ _ _ _ (by omega)).trans hHeld.1, cell_setRow (Nat.ne_of_lt (Nat.lt_succ_self _)) hHeld.2⟩) (fun hNew => ?_)
      clear hK K hHeld; (have hHeld := hNew); clear hNew; (try simp only [Act.put])
      (refine takeH (i := 4) (v := ?_) rfl (by kernel_rfl) (by kernel_rfl) (by kernel_rfl) (fun _ _ _ h => h) (Or.inl ⟨by rfl, ?_⟩) (by assumption) ?_; rotate_left; (focus ((intro wS hSw); (try dsimp only at hSw); obtain ⟨s0, s1⟩ := hSw; go_simp; (try with_reducible rfl); done)); (try simp only [Act.put, List.setIfInBounds_toArray, List.set_cons_zero, List.set_cons_succ]))
      (refine takeH (i := 5) (v := ?_) rfl (by kernel_rfl) (by kernel_rfl) (by kernel_rfl) (fun _ _ _ h => h) (Or.inl ⟨by rfl, ?_⟩) (by assumption) ?_; rotate_left; (focus ((intro wS hSw); (try dsimp only at hSw); obtain ⟨s0, s1⟩ := hSw; go_simp; (try with_reducible rfl); done)); (try simp only [Act.put, List.setIfInBounds_toArray, List.set_cons_zero, List.set_cons_succ]))
      refine wpAnyH_done (by kernel_rfl) ?_ _
      have hJ := setRow_heap _ _ _ (jQ g1 c1 dm af tr1 dd wv n2 t2 false).toArray _ _ HZd.out
      clear hHeld
      go_wp2
      refine bodyPost_ret (results_cell_of3 rfl _ _ (w.heap.size + 1) _ _ _ rfl rfl rfl (load_J _ _ (jQ g1 c1 dm af tr1 dd wv n2 t2 false) rfl _ _ hJ)) rfl ?_
      unfold AppR
      rw [HDn.out]
      refine ⟨g1, c1, tr1, HRd.out.setRow _ (ref_boxG HRd.out HM1.out HZd.out (v0 := .slice none 0 0) rfl (fun s e => by cases e)), below_setRow HBd.out (by omega) _, .inl ⟨rfl, ?_⟩⟩
      show _ = Ending.returned (.tuple #[.agg (jQ g1 c1 d1.many (aftR d1) tr1 d1.dead d1.writes (n + 1) (t + k) false).toArray, .int .i64 ((n + 1 : Nat) : Int), .int .i64 0])
      rw [← HE1.out.1, ← HE1.out.2.1, ← HE1.out.2.2.1, ← HE1.out.2.2.2, ← HNT.out.1, ← HNT.out.2]
      rfl
end Go.Proofs.Ytbbgmjfmpcbpbaa
