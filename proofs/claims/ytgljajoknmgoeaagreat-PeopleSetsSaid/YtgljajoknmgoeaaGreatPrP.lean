/- The statement on what is set, walked. -/
import Derived.Test.YtgljajoknmgoeaaGreatPrR
import Derived.Test.YtgljajoknmgoeaaGreatPpL
import Derived.Test.YtgljajoknmgoeaaGreatVatSame
namespace Go.Proofs.YtgljajoknmgoeaaGreat
open Go.RowKit
set_option maxRecDepth 100000
attribute [local go_sem] Oper.semAt_some

/-! ### a box of the document's people turned -/
theorem Lin.box {w W : World} {B most g : Nat} {L : List Sp} {a : ByteArray} {A1 A2 : Option Addr} {n1 c1 n2 c2 : Nat} {t : TypeId} (h : Lin w B most L) (hg : w.heap[g]? = some (.cells #[.string a, .slice A1 n1 c1, .slice A2 n2 c2] t (0, 0))) (hgr : w.grownBy W (some g)) : Lin W B most L := by
  have hblk : ∀ k, k < w.heap.size → k ≠ g → W.heap[k]? = w.heap[k]? := fun k hk hne => hgr.block k hk (fun e => hne (by injection e))
  obtain ⟨A, cc, g0, g1, g2⟩ := h
  have hB : B ≠ g := fun e => by
    rw [e, hg] at g0
    injection g0 with g0
    injection g0 with g0
    have := congrArg Array.size g0
    simp at this
  refine ⟨A, cc, (hblk B (heapLt g0) hB).trans g0, fun hn => ?_, g2⟩
  obtain ⟨b, o, ea, hb, hra⟩ := g1 hn
  have hne : b ≠ g := fun e => by
    subst e
    have h0 := hra _ _ (flat2_at L 0 (List.length_pos_iff.2 hn)).2
    rw [cell_of_row _ _ _ _ _ _ hg] at h0
    match o with
    | 0 => simp at h0
    | 1 => simp at h0
    | k + 2 => simp at h0
  exact ⟨b, o, ea, Nat.lt_of_lt_of_le hb hgr.size, fun j v hv => (World.cell?_of_block (hblk b hb hne)).trans (hra j v hv)⟩
theorem PpAt.box {w W : World} {base P B0 bm n g : Nat} {h : ByteArray} {O : List Sp} {F : Lns} {a : ByteArray} {A1 A2 : Option Addr} {n1 c1 n2 c2 : Nat} {t : TypeId} (H : PpAt w base P B0 bm n h O F) (hg : w.heap[g]? = some (.cells #[.string a, .slice A1 n1 c1, .slice A2 n2 c2] t (0, 0))) (hgr : w.grownBy W (some g)) : PpAt W base P B0 bm n h O F := by
  have hP : P ≠ g := fun e => by
    have h1 := H.1
    rw [e, hg] at h1
    injection h1 with h1
    injection h1 with h1
    simp at h1
  obtain ⟨⟨D, h2, h3⟩, h4, h5, h7, h8⟩ := H.2.1
  have hb : bm ≠ g := fun e => by
    obtain ⟨es, clock, hb, _⟩ := h2
    rw [e, hg] at hb
    injection hb with hb
    cases hb
  exact ⟨(hgr.block P (heapLt H.1) (fun e => hP (by injection e))).trans H.1, ⟨⟨D, h2.kept hgr (by simpa using hb), h3⟩, fun s B L e => ⟨(h4 s B L e).1.box hg hgr, (h4 s B L e).2⟩, h5, h7, Nat.le_trans h8 hgr.size⟩, H.2.2.1.box hg hgr, H.2.2.2⟩
theorem OwnS.box {w W : World} {B g : Nat} {v : Value} {L : List ByteArray} {cs : Array Value} (h : OwnS w B v L) (hg : w.heap[g]? = some (.cells cs 35 (0, 0))) (hgr : w.grownBy W (some g)) : OwnS W B v L := by
  refine ⟨h.1, ?_⟩
  rcases h.2 with h | ⟨b, c, cur, e, hB, hh, hr⟩
  · exact .inl h
  · refine .inr ⟨b, c, cur, e, hB, (hgr.block b (heapLt hh) (fun e => ?_)).trans hh, hr⟩
    have e2 : b = g := Option.some.inj e
    rw [e2, hg] at hh
    injection hh with hh
    injection hh with _ hh
    exact absurd hh (by decide)
theorem OwnS.up {w W : World} {B : Nat} {v : Value} {L : List ByteArray} (h : OwnS w B v L) (k : ∀ i, B ≤ i → i < w.heap.size → W.heap[i]? = w.heap[i]?) : OwnS W B v L := by
  refine ⟨h.1, ?_⟩
  rcases h.2 with h | ⟨b, c, cur, e, hB, hh, hr⟩
  · exact .inl h
  · exact .inr ⟨b, c, cur, e, hB, (k b hB (heapLt hh)).trans hh, hr⟩
theorem ownS_less {w : World} {B B' : Nat} {v : Value} {L : List ByteArray} (h : OwnS w B v L) (hB : B' ≤ B) : OwnS w B' v L := by
  refine ⟨h.1, ?_⟩
  rcases h.2 with h | ⟨g, c, cur, h1, h2, h3⟩
  · exact .inl h
  · exact .inr ⟨g, c, cur, h1, Nat.le_trans hB h2, h3⟩
theorem strs_own {w : World} {B : Nat} {A : Option Addr} {n c : Nat} {L : List ByteArray} (h : OwnS w B (.slice A n c) L) (hs : ∀ s ∈ L, okKey s) (_ : L.length ≤ 1000) : Strs w A L := fun i hi => by
  rcases h.2 with ⟨_, h0⟩ | ⟨g, cc, cur, e, _, hh, _⟩
  · omega
  · injection e with e1 e2 e3
    subst e1
    have hc := World.ownsRow.cells (g := g) h rfl i (.string L[i]) (by rw [List.getElem?_map, List.getElem?_eq_getElem hi]; rfl)
    exact ⟨_, rfl, heapLt hh, hc, hs _ (List.getElem_mem hi)⟩
theorem grown3 {W : World} {g : Nat} {x y z : Value} : W.grownBy (((W.setCell ⟨g, 0, none⟩ x).setCell ⟨g, 1, none⟩ y).setCell ⟨g, 2, none⟩ z) (some g) := ⟨rfl, rfl, rfl, by simp, fun k _ hne => set3_other (fun e => hne (by rw [e]))⟩
/-- two behind one another -/
theorem box2OpP {W : World} {g : Nat} {p q : OpP} {t : TypeId} (h : W.heap[g]? = some (.cells #[.int .i64 p.1, .string p.2.1, .string p.2.2.1, .int .i64 p.2.2.2.1, .int .i64 p.2.2.2.2.1, .int .i64 p.2.2.2.2.2, .int .i64 q.1, .string q.2.1, .string q.2.2.1, .int .i64 q.2.2.2.1, .int .i64 q.2.2.2.2.1, .int .i64 q.2.2.2.2.2] t (0, 0))) : RowOpP W (some ⟨g, 0, none⟩) [p, q] := fun _ => ⟨g, 0, rfl, heapLt h, fun j v hv => by
  have e : flatsOpP [p, q] = [.int .i64 p.1, .string p.2.1, .string p.2.2.1, .int .i64 p.2.2.2.1, .int .i64 p.2.2.2.2.1, .int .i64 p.2.2.2.2.2, .int .i64 q.1, .string q.2.1, .string q.2.2.1, .int .i64 q.2.2.2.1, .int .i64 q.2.2.2.2.1, .int .i64 q.2.2.2.2.2] := rfl
  rw [e] at hv
  rw [cell_of_row W g _ _ _ _ h, Nat.zero_add, ← hv, List.getElem?_toArray]⟩

/-! ### the walk -/
/-- what the statement's own boxes hold -/
def NbI (w : World) (x : OpP) (W : World) : Prop :=
  W.heap[w.heap.size]? = some (.cells #[.int .i64 x.1, .string x.2.1, .string x.2.2.1, .int .i64 x.2.2.2.1, .int .i64 x.2.2.2.2.1, .int .i64 x.2.2.2.2.2] 26 (0, 0)) ∧ Below w.heap.size w W
theorem NbI.on {w W V : World} {x : OpP} (h : NbI w x W) (hb : Below W.heap.size W V) : NbI w x V := ⟨heap_on hb h.1, below_then h.2 hb⟩
theorem light_all {L : List OpP} {x : OpP} (h : lightB L x = true) : (∀ y ∈ L, y.2.1.size ≤ 100 ∧ y.2.2.1.size ≤ 100) ∧ (x.2.1.size ≤ 100 ∧ x.2.2.1.size ≤ 100) ∧ L.length ≤ 40 := by
  unfold lightB shortsB at h
  rw [Bool.and_eq_true, List.all_eq_true, decide_eq_true_iff] at h
  have e : ∀ y ∈ L ++ [x], y.2.1.size ≤ 100 ∧ y.2.2.1.size ≤ 100 := fun y hy => by
    have := h.1 y hy
    unfold shortB at this
    rw [Bool.and_eq_true, decide_eq_true_iff, decide_eq_true_iff] at this
    exact this
  exact ⟨fun y hy => e y (List.mem_append_left _ hy), e x (by simp), h.2⟩
/-- where a round stands -/
def PsS (w : World) (x : OpP) (home : ByteArray) (b8 P B0 bm n base : Nat) (O : List Sp) (F : Lns) (AO : Option Addr) (cO : Nat) (OD : List Sp) (AM : Option Addr) (cM : Nat) (M : List St) (k : Nat) (W : World) : Prop :=
  PpAt W base P B0 bm n home O F ∧ n ≤ 2000 ∧ W.heap[b8]? = some (.cells #[.string home, .slice AO OD.length cO, .slice AM M.length cM] 35 (0, 0)) ∧ (Row W AO OD ∧ (AO = none → OD = [])) ∧ (RowSt W AM M ∧ (AM = none → M = [])) ∧
  RelP O F OD M ∧ (OD.length ≤ k ∧ M.length ≤ k) ∧ NbI w x W ∧ w.heap.size < b8
theorem PsS.on {w W V : World} {x : OpP} {home : ByteArray} {b8 P B0 bm n base : Nat} {O : List Sp} {F : Lns} {AO : Option Addr} {cO : Nat} {OD : List Sp} {AM : Option Addr} {cM : Nat} {M : List St} {k : Nat} (h : PsS w x home b8 P B0 bm n base O F AO cO OD AM cM M k W) (hb : Below W.heap.size W V) : PsS w x home b8 P B0 bm n base O F AO cO OD AM cM M k V :=
  ⟨h.1.on hb, h.2.1, heap_on hb h.2.2.1, ⟨h.2.2.2.1.1.on hb, h.2.2.2.1.2⟩, ⟨h.2.2.2.2.1.1.on hb, h.2.2.2.2.1.2⟩, h.2.2.2.2.2.1, h.2.2.2.2.2.2.1, h.2.2.2.2.2.2.2.1.on hb, h.2.2.2.2.2.2.2.2⟩
set_option maxHeartbeats 1000000 in
theorem sets_out (home : ByteArray) (A : Option Addr) (c : Nat) (L : List OpP) (x : OpP) (w : World) (hr : RowOpP w A L) (hA : A = none → L = []) (hlc : L.length ≤ c) (hln : L.length * 64 ≤ 140737488351232) (hh : home.size ≤ 9223372036854775807) (hM : MaxL w) (hV : lightB L x = false ∨ (lightB L x = true ∧ 100 < home.size)) :
    Calls Tryz.prog 3 #[.string home, .slice A L.length c, .agg #[.int .i64 x.1, .string x.2.1, .string x.2.2.1, .int .i64 x.2.2.2.1, .int .i64 x.2.2.2.2.1, .int .i64 x.2.2.2.2.2]] w fun e w' => e = .returned (.bool true) ∧ Below w.heap.size w w' := by
  have HI : Hid (∀ o, Below w.heap.size w (w.alloc o)) := Lib.hid (fun o => below_alloc w o)
  have HM := Lib.hid hM
  have HLt := Lib.hid (fun o V hV => code_light A c L x (w.alloc o) (hr.on (below_alloc _ _)) hA hlc hln V hV)
  rcases hV with hV | ⟨hV, hm⟩
  · have HL := Lib.hid (fun o => HLt.out o _ hV)
    clear hM hV hr hA hlc hln HLt
    go_enter Tryz.func3, Tryz.ntmps3
    go_wp2_with (first
      | (go_at_call 4; refine (HL.out _).mono ?_; rintro e w1 ⟨rfl, hb⟩; have HB := Lib.hid (below_then (HI.out _) hb); clear hb)
      | (go_at_call 5; refine (pp_lives _ (HM.out.below HB.out)).mono ?_; rintro e w2 ⟨rfl, hb⟩; have HZ := Lib.hid (below_then HB.out hb); clear hb))
    go_ret
    exact ⟨rfl, HZ.out⟩
  · have HL := Lib.hid (fun o => HLt.out o _ hV)
    have hm' : (100 : Int) < (home.size : Int) := by omega
    clear hM hV hr hA hlc hln HLt hm
    go_enter Tryz.func3, Tryz.ntmps3
    go_wp2_with (first
      | (go_at_call 4; refine (HL.out _).mono ?_; rintro e w1 ⟨rfl, hb⟩; have HB := Lib.hid (below_then (HI.out _) hb); clear hb)
      | (go_at_call 5; refine (pp_lives _ (HM.out.below HB.out)).mono ?_; rintro e w2 ⟨rfl, hb⟩; have HZ := Lib.hid (below_then HB.out hb); clear hb))
    go_ret
    exact ⟨rfl, HZ.out⟩
set_option maxHeartbeats 1000000 in
theorem sets_none (home : ByteArray) (A : Option Addr) (c : Nat) (L : List OpP) (x : OpP) (w : World) (hr : RowOpP w A L) (hA : A = none → L = []) (hlc : L.length ≤ c) (hln : L.length * 64 ≤ 140737488351232) (hM : MaxL w) (hV : lightB L x = true) (hh : home.size ≤ 100) (hm : isMem home = false) :
    Calls Tryz.prog 3 #[.string home, .slice A L.length c, .agg #[.int .i64 x.1, .string x.2.1, .string x.2.2.1, .int .i64 x.2.2.2.1, .int .i64 x.2.2.2.2.1, .int .i64 x.2.2.2.2.2]] w fun e w' => e = .returned (.bool true) ∧ Below w.heap.size w w' := by
  have HI : Hid (∀ o, Below w.heap.size w (w.alloc o)) := Lib.hid (fun o => below_alloc w o)
  have HM := Lib.hid hM
  have HLt := Lib.hid (fun o => code_light A c L x (w.alloc o) (hr.on (below_alloc _ _)) hA hlc hln true hV)
  have HMb := Lib.hid (fun W => ref_member home W)
  rw [hm] at HMb
  have HN : Hid (∀ W, MaxL W → Calls Tryz.prog 6 #[.string home] W fun e w' => e = .returned (.pointer none) ∧ W = w') := Lib.hid (fun W hW => code_pnew_no home (by omega) hW hm)
  have hh' : (home.size : Int) ≤ 100 := by omega
  clear hM hV hr hA hlc hln hm hh
  go_enter Tryz.func3, Tryz.ntmps3
  go_wp2_with (first
    | (go_at_call 4; refine (HLt.out _).mono ?_; rintro e w1 ⟨rfl, hb⟩; have HB := Lib.hid (below_then (HI.out _) hb); clear hb)
    | (go_at_call 6; refine (HN.out _ (HM.out.below HB.out)).mono ?_; rintro e w2 ⟨rfl, rfl⟩)
    | (go_at_call 7; refine (HMb.out _).mono ?_; rintro e w2 ⟨rfl, hb⟩; have HC := Lib.hid (below_then HB.out hb); clear hb)
    | (go_at_call 5; refine (pp_lives _ (HM.out.below HC.out)).mono ?_; rintro e w3 ⟨rfl, hb⟩; have HZ := Lib.hid (below_then HC.out hb); clear hb))
  go_ret
  exact ⟨rfl, HZ.out⟩
set_option maxHeartbeats 3000000 in
theorem sets_in (home : ByteArray) (A : Option Addr) (c : Nat) (L : List OpP) (x : OpP) (w : World) (hr : RowOpP w A L) (hA : A = none → L = []) (hlc : L.length ≤ c) (hln : L.length * 64 ≤ 140737488351232) (hM : MaxL w) (hV : lightB L x = true) (hh : home.size ≤ 100) (hm : isMem home = true) :
    Calls Tryz.prog 3 #[.string home, .slice A L.length c, .agg #[.int .i64 x.1, .string x.2.1, .string x.2.2.1, .int .i64 x.2.2.2.1, .int .i64 x.2.2.2.2.1, .int .i64 x.2.2.2.2.2]] w fun e w' => e = .returned (.bool true) ∧ Below w.heap.size w w' := by
  obtain ⟨hLs, hx, hl40⟩ := light_all hV
  have hl40' : (L.length : Int) ≤ 40 := by omega
  have HI : Hid (NbI w x (w.alloc (.cells #[.int .i64 x.1, .string x.2.1, .string x.2.2.1, .int .i64 x.2.2.2.1, .int .i64 x.2.2.2.2.1, .int .i64 x.2.2.2.2.2] 26))) := Lib.hid ⟨heap_alloc_new _ _, below_alloc _ _⟩
  have HM := Lib.hid hM
  have HLt := Lib.hid (fun o => code_light A c L x (w.alloc o) (hr.on (below_alloc _ _)) hA hlc hln true hV)
  have HMb := Lib.hid (fun W => ref_member home W)
  rw [hm] at HMb
  have HR := Lib.hid (And.intro hr (And.intro hLs hx))
  have HMe := Lib.hid hm
  have hh' : (home.size : Int) ≤ 100 := by omega
  clear hM hV hr hA hlc hln hm hLs hx hl40 hh
  go_enter Tryz.func3, Tryz.ntmps3
  go_wp2_with (go_at_call 4; refine (HLt.out _).mono ?_; rintro e w1 ⟨rfl, hb⟩; have HI1 := Lib.hid (HI.out.on hb); clear hb; refine Stop.out ?_)
  unfold Stop
  go_wp2_with (go_at_call 6; refine (code_pnew home (HM.out.below HI1.out.2) HMe.out).mono ?_; rintro e w2 ⟨P0, B00, bm0, rfl, h2, hb⟩; have H2 := Lib.hid h2; have HI2 := Lib.hid (HI1.out.on hb); clear h2 hb; refine Stop.out ?_)
  unfold Stop
  go_wp2_with (go_at_call 7; refine (HMb.out _).mono ?_; rintro e w3 ⟨rfl, hb⟩; have HI3 := Lib.hid (HI2.out.on hb); have H3 := Lib.hid (H2.out.on hb); clear hb; refine Stop.out ?_)
  unfold Stop
  go_wp2
  have HS0 : Hid (PsS w x home w3.heap.size P0 B00 bm0 0 w1.heap.size [] (fun _ => none) none 0 [] none 0 [] 0 (w3.alloc (.cells #[.string home, .slice none 0 0, .slice none 0 0] 35))) := Lib.hid
    ⟨H3.out.on (below_alloc _ _), by omega, heap_alloc_new _ _, ⟨Row.nil, fun _ => rfl⟩, ⟨RowSt.nil, fun _ => rfl⟩, RelP.nil, ⟨Nat.le_refl _, Nat.le_refl _⟩, HI3.out.on (below_alloc _ _), heapLt HI3.out.1⟩
  clear HLt HMb HI HI1 HI2 HI3 H2 H3
  generalize w3.heap.size = b8 at HS0 ⊢
  go_loopw [7, 44] (fun pv i wr => ∃ (k P B0 bm n base : Nat) (O : List Sp) (F : Lns) (AO : Option Addr) (cO : Nat) (OD : List Sp) (AM : Option Addr) (cM : Nat) (M : List St), k ≤ L.length ∧ i = .int .i64 k ∧ pv = .pointer (some ⟨P, 0, none⟩) ∧ Hid (PsS w x home b8 P B0 bm n base O F AO cO OD AM cM M k wr)) (fun _ i _ => L.length - (intOf i).toNat)
  case atStart => exact ⟨0, _, _, _, _, _, _, _, _, _, _, _, _, _, Nat.zero_le _, rfl, rfl, HS0⟩
  case round =>
    clear HS0
    obtain ⟨k, P, B0, bm, n, base, O, F, AO, cO, OD, AM, cM, M, hk, rfl, rfl, HS⟩ := hrel
    by_cases hlt : k < L.length
    · have hlt' : (k : Int) < (L.length : Int) := by omega
      obtain ⟨b, o, rfl, hbl, y0, y1, y2, y3, y4, y5⟩ := (HR.out.1.on HS.out.2.2.2.2.2.2.2.1.2).at_ k hlt
      have hsz := HR.out.2.1 L[k] (List.getElem_mem hlt)
      obtain ⟨z, hz⟩ : ∃ z, z = L[k] := ⟨_, rfl⟩
      rw [← hz] at y0 y1 y2 y3 y4 y5 hsz
      have HSz := Lib.hid hsz
      clear hz hsz hbl
      have hb1 := below_alloc wr (.cells #[.int .i64 z.1, .string z.2.1, .string z.2.2.1, .int .i64 z.2.2.2.1, .int .i64 z.2.2.2.2.1, .int .i64 z.2.2.2.2.2] 26)
      have hz1 := heap_alloc_new wr (.cells #[.int .i64 z.1, .string z.2.1, .string z.2.2.1, .int .i64 z.2.2.2.1, .int .i64 z.2.2.2.2.1, .int .i64 z.2.2.2.2.2] 26)
      have HBd : Hid (∀ T, KsOk F T → T.length ≤ 40) := Lib.hid (fun T hT => by have := HS.out.2.2.2.2.2.1.names hT; have := HS.out.2.2.2.2.2.2.1.2; omega)
      have HLen : Hid (OD.length ≤ 40 ∧ M.length ≤ 40) := Lib.hid (by have := HS.out.2.2.2.2.2.2.1; omega)
      have HC := Lib.hid (code_pclone ((HS.out.on hb1).1) (fun T hT => by have := HBd.out T hT; omega))
      have HSa := Lib.hid (And.intro (HS.out.on hb1) (And.intro hz1 hb1))
      have hs1 : (wr.alloc (.cells #[.int .i64 z.1, .string z.2.1, .string z.2.2.1, .int .i64 z.2.2.2.1, .int .i64 z.2.2.2.2.1, .int .i64 z.2.2.2.2.2] 26)).heap.size = wr.heap.size + 1 := by simp
      have HS1 := Lib.hid hs1
      clear hb1 hz1 hs1
      go_wp2_with (go_at_call 8; refine Stop.out ?_)
      unfold Stop
      generalize hw1 : World.alloc wr (.cells #[.int .i64 z.1, .string z.2.1, .string z.2.2.1, .int .i64 z.2.2.2.1, .int .i64 z.2.2.2.2.1, .int .i64 z.2.2.2.2.2] 26) = w1 at HC HSa HS1 ⊢
      clear hw1
      refine HC.out.mono ?_
      rintro e w2 ⟨P2, B2, bm2, n2, F2, rfl, h2, hn2, hcp, hb2⟩
      have H2 := Lib.hid (And.intro h2 (And.intro hn2 (And.intro hcp hb2)))
      obtain ⟨e0, e1, e2, e3, e4, e5⟩ := cellsOpP (heap_on hb2 HSa.out.2.1)
      clear h2 hn2 hcp hb2 HC
      obtain ⟨base2, hbase⟩ : ∃ base2, base2 = w1.heap.size := ⟨_, rfl⟩
      rw [← hbase] at H2 HS1
      have HBe := Lib.hid hbase
      clear hbase
      have hb3 := below_alloc w2 (.cells #[.int .i64 z.2.2.2.1, .int .i64 z.2.2.2.2.1] 39)
      have hz3 := heap_alloc_new w2 (.cells #[.int .i64 z.2.2.2.1, .int .i64 z.2.2.2.2.1] 39)
      have HSp := Lib.hid (And.intro hb3 hz3)
      have HK1 := Lib.hid (code_known (((HSa.out.1.on (HBe.out ▸ H2.out.2.2.2)).on hb3).1) (fun T hT => by have := HBd.out T hT; omega))
      clear hb3 hz3
      go_wp2_with (go_at_call 9; refine HK1.out.mono ?_; rintro e w3 ⟨v1, T1, rfl, ht, ho, hb⟩; obtain ⟨A1, c1, hv1⟩ := ho.form; subst hv1; have HT1 := Lib.hid ht; have HO1 := Lib.hid ho; have HB3 := Lib.hid hb; clear ht ho hb; refine Stop.out ?_)
      unfold Stop
      clear HK1 e0 e1 e2 e3 e4 e5
      -- up to here, from the clone on
      have HB23 : Hid (Below w2.heap.size w2 w3) := Lib.hid (below_then HSp.out.1 HB3.out)
      have HB13 : Hid (Below base2 w1 w3) := Lib.hid (H2.out.2.2.2.trans (HB23.out.mono (by rw [HBe.out]; exact (HBe.out ▸ H2.out.2.2.2 : Below w1.heap.size w1 w2).size)))
      obtain ⟨e0, e1, e2, e3, e4, e5⟩ := cellsOpP ((HB13.out.block _ (by have := HS1.out; omega)).trans HSa.out.2.1)
      obtain ⟨q0, q1, _, _⟩ := row2 (heap_on HB3.out HSp.out.2)
      have H23 := Lib.hid (H2.out.1.on HB23.out)
      have HB03 : Hid (Below wr.heap.size wr w3) := Lib.hid (HSa.out.2.2.trans (HB13.out.mono (by have := HS1.out; omega)))
      by_cases hK : z.1 = 0
      · have hK' : (z.1 == 0) = true := beq_iff_eq.2 hK
        have hop := code_opt_k H23.out z.2.2.2.1 z.2.2.2.2.1 z.2.2.2.2.2
        have hE : setE 256 O z.2.2.2.1 z.2.2.2.2.1 = refE 256 OD z.2.2.2.1 z.2.2.2.2.1 := setE_ref HS.out.2.2.2.2.2.1.opt
        have hch : ∀ V, Row V AO OD → Calls Tryz.prog 11 #[.agg #[.string home, .slice AO OD.length cO, .slice AM M.length cM], .agg #[.int .i64 z.2.2.2.1, .int .i64 z.2.2.2.2.1, .int .i64 z.2.2.2.2.2]] V (ChQ V home OD AM M.length cM z.2.2.2.1 z.2.2.2.2.1 z.2.2.2.2.2) := fun V hV => ref_choose home AO cO OD AM M.length cM _ _ _ V hV HS.out.2.2.2.1.2 (by have := HLen.out; omega)
        unfold ChQ at hch
        rw [hE] at hop
        generalize refE 256 OD z.2.2.2.1 z.2.2.2.2.1 = E at hop hch
        have HOp := Lib.hid hop
        have HCh := Lib.hid hch
        clear hop hE hch hK
        go_wp2_with (go_at_call 10; refine HOp.out.mono ?_; rintro e w4 ⟨rfl, h4, hc4⟩; have H4 := Lib.hid (And.intro h4 hc4); clear h4 hc4; refine Stop.out ?_)
        unfold Stop
        have HB14 : Hid (Below base2 w1 w4) := Lib.hid (HB13.out.trans (H4.out.2.below (Nat.le_trans (by have := H2.out.1.baseLe; exact this) HB23.out.size) H2.out.1.2.2.2.1))
        have HU4 : Hid (∀ i, w2.heap.size ≤ i → i < w3.heap.size → w4.heap[i]? = w3.heap[i]?) := Lib.hid (fun i h1 h2 => H4.out.2.block i h2 (by have := H2.out.1.2.2.1.lt; omega))
        have HS4 := Lib.hid (HSa.out.1.on (HBe.out ▸ HB14.out))
        clear e0 e1 e2 e3 e4 e5 q0 q1
        obtain ⟨e0, e1, e2, e3, e4, e5⟩ := cellsOpP ((HB14.out.block _ (by have := HS1.out; omega)).trans HSa.out.2.1)
        obtain ⟨p0, p1, p2⟩ := row3a HS4.out.2.2.1
        go_wp2_with (go_at_call 11; refine (HCh.out _ HS4.out.2.2.2.1.1).mono ?_; rintro e w5 ⟨AO4, cO4, rfl, hr5, hn5, hb5⟩; have H5 := Lib.hid (And.intro hr5 (And.intro hn5 hb5)); clear hr5 hn5 hb5; refine Stop.out ?_)
        unfold Stop
        have HS5 := Lib.hid (HS4.out.on H5.out.2.2)
        clear p0 p1 p2 e0 e1 e2 e3 e4 e5
        obtain ⟨p0, p1, p2⟩ := row3a HS5.out.2.2.1
        obtain ⟨z0, z1, z2⟩ := frz HS5.out.2.2.1
        have hOD := HS.out.2.2.2.2.2.1.copy H2.out.2.2.1
        have hRel := hOD.choose (z.2.2.2.1, z.2.2.2.2.1, z.2.2.2.2.2)
        obtain ⟨OD4, hOD4⟩ : ∃ OD4, OD4 = refL 256 OD (z.2.2.2.1, z.2.2.2.2.1, z.2.2.2.2.2) := ⟨_, rfl⟩
        have hln := refL_len (most := 256) (w := OD) (p := (z.2.2.2.1, z.2.2.2.2.1, z.2.2.2.2.2))
        rw [← hOD4] at H5 hRel hln ⊢
        clear hOD4
        have hgr : w5.grownBy (((w5.setCell ⟨b8, 0, none⟩ (.string home)).setCell ⟨b8, 1, none⟩ (.slice AO4 OD4.length cO4)).setCell ⟨b8, 2, none⟩ (.slice AM M.length cM)) (some b8) := grown3
        have hb8 : w.heap.size < b8 := HS5.out.2.2.2.2.2.2.2.2
        have H9 : Hid (PsS w x home b8 P2 B2 bm2 (n2 + 1) base2 (setL 256 O (z.2.2.2.1, z.2.2.2.2.1, z.2.2.2.2.2)) F2 AO4 cO4 OD4 AM cM M (k + 1) (((w5.setCell ⟨b8, 0, none⟩ (.string home)).setCell ⟨b8, 1, none⟩ (.slice AO4 OD4.length cO4)).setCell ⟨b8, 2, none⟩ (.slice AM M.length cM))) := Lib.hid
          ⟨(((H4.out.1.on H5.out.2.2).mono (by omega)).box HS5.out.2.2.1 hgr), by have := H2.out.2.1; omega, set3 HS5.out.2.2.1,
           ⟨H5.out.1.others (S := fun i => i = b8) (fun hn q hq hs => H5.out.1.no_box HS5.out.2.2.1 (by simp) (by simp) (by simp) hn q hq hs) (by simp) (fun i hi => set3_other hi), H5.out.2.1⟩,
           ⟨HS5.out.2.2.2.2.1.1.others (S := fun i => i = b8) (fun hn q hq hs => HS5.out.2.2.2.2.1.1.no_box HS5.out.2.2.1 (by simp) (by simp) hn q hq hs) (by simp) (fun i hi => set3_other hi), HS5.out.2.2.2.2.1.2⟩,
           hRel, ⟨by have := HS.out.2.2.2.2.2.2.1.1; omega, by have := HS.out.2.2.2.2.2.2.1.2; omega⟩, ⟨(set3_other (by omega)).trans HS5.out.2.2.2.2.2.2.2.1.1, set3_below HS5.out.2.2.2.2.2.2.2.1.2 (by omega)⟩, hb8⟩
        have HPo : Hid (PpAt (((w5.setCell ⟨b8, 0, none⟩ (.string home)).setCell ⟨b8, 1, none⟩ (.slice AO4 OD4.length cO4)).setCell ⟨b8, 2, none⟩ (.slice AM M.length cM)) base P B0 bm n home O F) := Lib.hid (HS5.out.1.box HS5.out.2.2.1 hgr)
        have HO9 : Hid (OwnS (((w5.setCell ⟨b8, 0, none⟩ (.string home)).setCell ⟨b8, 1, none⟩ (.slice AO4 OD4.length cO4)).setCell ⟨b8, 2, none⟩ (.slice AM M.length cM)) w2.heap.size (.slice A1 (srtL T1).length c1) (srtL T1)) := Lib.hid ((((ownS_less HO1.out HSp.out.1.size).up HU4.out).on H5.out.2.2).box HS5.out.2.2.1 hgr)
        have HZ9 : Hid ((((w5.setCell ⟨b8, 0, none⟩ (.string home)).setCell ⟨b8, 1, none⟩ (.slice AO4 OD4.length cO4)).setCell ⟨b8, 2, none⟩ (.slice AM M.length cM)).heap[wr.heap.size]? = some (.cells #[.int .i64 z.1, .string z.2.1, .string z.2.2.1, .int .i64 z.2.2.2.1, .int .i64 z.2.2.2.2.1, .int .i64 z.2.2.2.2.2] 26 (0, 0))) := Lib.hid
          ((set3_other (by have := heapLt HS.out.2.2.1; omega)).trans (heap_on H5.out.2.2 ((HB14.out.block _ (by have := HS1.out; omega)).trans HSa.out.2.1)))
        clear hgr hb8 hRel hOD hln HOp HCh HB14 HU4 H23 HB23 HB13 HSp HB3
        go_wp2_with (go_at_call 9; refine Stop.out ?_)
        unfold Stop
        generalize hw6 : World.setCell _ ⟨b8, 2, none⟩ (.slice AM M.length cM) = w6 at H9 HPo HO9 HZ9 ⊢
        clear hw6 p0 p1 p2 z0 z1 z2 HS4 HS5 H4 H5 HSa
        generalize hn4 : n2 + 1 = n4 at H9
        generalize hO4 : setL 256 O (z.2.2.2.1, z.2.2.2.2.1, z.2.2.2.2.2) = O4 at H9
        obtain ⟨F4, hF4⟩ : ∃ F4, F4 = F2 := ⟨_, rfl⟩
        obtain ⟨AM4, hAM4⟩ : ∃ AM4, AM4 = AM := ⟨_, rfl⟩
        obtain ⟨cM4, hcM4⟩ : ∃ cM4, cM4 = cM := ⟨_, rfl⟩
        obtain ⟨M4, hM4⟩ : ∃ M4, M4 = M := ⟨_, rfl⟩
        rw [← hF4, ← hAM4, ← hcM4, ← hM4] at H9
        clear hn4 hO4 hF4 hAM4 hcM4 hM4
        have HK2 := code_known HPo.out (fun T hT => by have := HBd.out T hT; omega)
        refine HK2.mono ?_
        rintro e w7 ⟨v2, T2, rfl, ht, ho, hb⟩
        obtain ⟨A7, c7, hv2⟩ := ho.form
        subst hv2
        have HB7 := Lib.hid hb
        have hs2 := strs_own ho (fun s hs => (ht.1.2 s (srtL_mem hs)).1) (by rw [srtL_len]; have := HBd.out _ ht.1; omega)
        have hs1 := strs_own (HO9.out.on hb) (fun s hs => (HT1.out.1.2 s (srtL_mem hs)).1) (by rw [srtL_len]; have := HBd.out _ HT1.out.1; omega)
        have hSm := ref_same (srtL T2) (srtL T1) A7 A1 c7 c1 w7 (by rw [srtL_len]; have := HBd.out _ ht.1; omega) hs2 hs1
        rw [decide_eq_true (all_eq ht HT1.out)] at hSm
        have HSm := Lib.hid hSm
        clear ht ho hb hs1 hs2 hSm HK2
        go_wp2_with (go_at_call 14; refine HSm.out.mono ?_; rintro e w8 ⟨rfl, hb8⟩; have HB8 := Lib.hid (below_then HB7.out hb8); clear hb8; refine Stop.out ?_)
        unfold Stop
        have H8 := Lib.hid (H9.out.on HB8.out)
        obtain ⟨x0, x1, x2, x3, x4, x5⟩ := cellsOpP H8.out.2.2.2.2.2.2.2.1.1
        obtain ⟨e0, e1, e2, e3, e4, e5⟩ := cellsOpP (heap_on HB8.out HZ9.out)
        have hrow := box2OpP (heap_alloc_new w8 (.cells #[.int .i64 x.1, .string x.2.1, .string x.2.2.1, .int .i64 x.2.2.2.1, .int .i64 x.2.2.2.2.1, .int .i64 x.2.2.2.2.2, .int .i64 z.1, .string z.2.1, .string z.2.2.1, .int .i64 z.2.2.2.1, .int .i64 z.2.2.2.2.1, .int .i64 z.2.2.2.2.2] 26))
        have HRow := Lib.hid hrow
        have HP9 := Lib.hid (H8.out.on (below_alloc w8 (.cells #[.int .i64 x.1, .string x.2.1, .string x.2.2.1, .int .i64 x.2.2.2.1, .int .i64 x.2.2.2.2.1, .int .i64 x.2.2.2.2.2, .int .i64 z.1, .string z.2.1, .string z.2.2.1, .int .i64 z.2.2.2.1, .int .i64 z.2.2.2.2.1, .int .i64 z.2.2.2.2.2] 26)))
        clear hrow H9 H8 HO9 HZ9 HPo HB7 HB8 HSm HO1 HT1
        go_wp2
        generalize hw9 : World.alloc w8 (.cells #[.int .i64 x.1, .string x.2.1, .string x.2.2.1, .int .i64 x.2.2.2.1, .int .i64 x.2.2.2.2.1, .int .i64 x.2.2.2.2.2, .int .i64 z.1, .string z.2.1, .string z.2.2.1, .int .i64 z.2.2.2.1, .int .i64 z.2.2.2.2.1, .int .i64 z.2.2.2.2.2] 26) = w9 at HRow HP9 ⊢
        clear hw9 x0 x1 x2 x3 x4 x5 e0 e1 e2 e3 e4 e5
        have H9 := Lib.hid HP9.out
        have HRl := Lib.hid HP9.out.2.2.2.2.2.1
        have HLen : Hid (OD4.length ≤ 41 ∧ M4.length ≤ 41) := Lib.hid (by have := HP9.out.2.2.2.2.2.2.1; omega)
        have HMx := Lib.hid (HM.out.below HP9.out.2.2.2.2.2.2.2.1.2)
        clear HP9
        go_loopw [107] (fun i wi => ∃ (j : Nat), j ≤ 2 ∧ i = .int .i64 j ∧ Hid (Below w9.heap.size w9 wi)) (fun i _ => 2 - (intOf i).toNat)
        case atStart => exact ⟨0, by omega, rfl, Lib.hid (below_same _)⟩
        case round =>
          rename World => wi
          obtain ⟨j, hj, rfl, HWi⟩ := hrel
          by_cases hjt : j < 2
          · have hjt' : (j : Int) < 2 := by omega
            have hsz2 : ∀ y ∈ [x, z], y.2.1.size ≤ 100 ∧ y.2.2.1.size ≤ 100 := fun y hy => by
              rcases List.mem_cons.1 hy with rfl | hy
              · exact HR.out.2.2
              · simp at hy
                subst hy
                exact HSz.out
            obtain ⟨bb, oo, hbo, _, t0, t1, t2, t3, t4, t5⟩ := (HRow.out.on HWi.out).at_ j (by simpa using hjt)
            injection hbo with hbo
            injection hbo with hb0 hb1 _
            subst hb0 hb1
            rw [Nat.zero_add] at t0 t1 t2 t3 t4 t5
            have hy2 := hsz2 _ (List.getElem_mem (l := [x, z]) (n := j) (by simpa using hjt))
            obtain ⟨y, hy⟩ : ∃ y, y = [x, z][j]'(by simpa using hjt) := ⟨_, rfl⟩
            rw [← hy] at t0 t1 t2 t3 t4 t5 hy2
            have HYs := Lib.hid hy2
            clear hy hy2 hsz2
            go_wp2
            have hnew := heap_alloc_new wi (.cells #[.int .i64 y.1, .string y.2.1, .string y.2.2.1, .int .i64 y.2.2.2.1, .int .i64 y.2.2.2.2.1, .int .i64 y.2.2.2.2.2] 26)
            have hba := below_then (below_alloc wi (.cells #[.int .i64 y.1, .string y.2.1, .string y.2.2.1, .int .i64 y.2.2.2.1, .int .i64 y.2.2.2.2.1, .int .i64 y.2.2.2.2.2] 26)) (below_drew _)
            obtain ⟨n0, n1, n2', n3, n4', n5⟩ := cellsOpP (heap_on (below_drew _) hnew)
            have HHd := Lib.hid (H9.out.on (below_then HWi.out hba))
            have HMd := Lib.hid (HMx.out.below (below_then HWi.out hba))
            have HWd := Lib.hid hba
            obtain ⟨p0, p1, p2⟩ := row3a HHd.out.2.2.1
            clear hnew hba t0 t1 t2 t3 t4 t5
            refine wp_region_held_drew (S := fun V => V.cell? ⟨wi.heap.size, 0, none⟩ = some (.int .i64 y.1) ∧ V.cell? ⟨wi.heap.size, 1, none⟩ = some (.string y.2.1) ∧ V.cell? ⟨wi.heap.size, 2, none⟩ = some (.string y.2.2.1) ∧ V.cell? ⟨wi.heap.size, 3, none⟩ = some (.int .i64 y.2.2.2.1) ∧ V.cell? ⟨wi.heap.size, 4, none⟩ = some (.int .i64 y.2.2.2.2.1) ∧ V.cell? ⟨wi.heap.size, 5, none⟩ = some (.int .i64 y.2.2.2.2.2) ∧ V.cell? ⟨b8, 0, none⟩ = some (.string home) ∧ V.cell? ⟨b8, 1, none⟩ = some (.slice AO4 OD4.length cO4) ∧ V.cell? ⟨b8, 2, none⟩ = some (.slice AM4 M4.length cM4)) (by kernel_rfl) ⟨n0, n1, n2', n3, n4', n5, p0, p1, p2⟩ ?_
            intro hHeld
            clear n0 n1 n2' n3 n4' n5 p0 p1 p2
            generalize World.drew _ = wd at HHd HMd HWd hHeld ⊢
            have hq1 := HRl.out.opted y.2.2.2.1
            have hq2 := HRl.out.biz (home := home) (c := y.2.1) (m := y.2.2.1) (by unfold okKey; rw [ByteArray.size_append]; have := HYs.out; omega) y.2.2.2.2.1
            have HOp : Hid (∀ V, Below wd.heap.size wd V → Calls Tryz.prog 15 #[.pointer (some ⟨P2, 0, none⟩), .int .i64 y.2.2.2.1] V fun e w' => e = .returned (.bool (atB O4 y.2.2.2.1)) ∧ Below V.heap.size V w') := Lib.hid (fun V hV => code_opted (HHd.out.on hV).1 _)
            have HOd : Hid (∀ V, Below wd.heap.size wd V → Calls Tryz.prog 16 #[.agg #[.string home, .slice AO4 OD4.length cO4, .slice AM4 M4.length cM4], .int .i64 y.2.2.2.1] V fun e w' => e = .returned (.bool (atB OD4 y.2.2.2.1)) ∧ Below V.heap.size V w') := Lib.hid (fun V hV => ref_opted home AO4 cO4 OD4 AM4 M4.length cM4 _ V (HHd.out.on hV).2.2.2.1.1 (by have := HLen.out; omega))
            have HBz : Hid (∀ V, Below wd.heap.size wd V → Calls Tryz.prog 17 #[.pointer (some ⟨P2, 0, none⟩), .string y.2.1, .string y.2.2.1, .int .i64 y.2.2.2.2.1] V fun e w' => e = .returned (.bool (bizB home F4 y.2.1 y.2.2.1 y.2.2.2.2.1)) ∧ Below V.heap.size V w') := Lib.hid (fun V hV => code_business (HHd.out.on hV).1 (HMd.out.below hV) _ _ _ (by have := HYs.out; omega) (by have := HYs.out; omega))
            have HBe : Hid (∀ V, Below wd.heap.size wd V → Calls Tryz.prog 18 #[.agg #[.string home, .slice AO4 OD4.length cO4, .slice AM4 M4.length cM4], .string y.2.1, .string y.2.2.1, .int .i64 y.2.2.2.2.1] V fun e w' => e = .returned (.bool (bizD home M4 y.2.1 y.2.2.1 y.2.2.2.2.1)) ∧ Below V.heap.size V w') := Lib.hid (fun V hV => ref_business home AO4 OD4.length cO4 AM4 cM4 M4 _ _ _ V (HHd.out.on hV).2.2.2.2.1.1 (by have := HLen.out; omega) (by have := HYs.out; omega) (by have := HYs.out; omega))
            rw [← hq1] at HOd
            rw [← hq2] at HBe
            generalize atB O4 y.2.2.2.1 = q1 at HOp HOd
            generalize bizB home F4 y.2.1 y.2.2.1 y.2.2.2.2.1 = q2 at HBz HBe
            clear hq1 hq2 HHd HMd
            (refine takeH (i := 0) (v := ?_) rfl (by kernel_rfl) (by kernel_rfl) (by kernel_rfl) (fun _ _ _ h => h) (Or.inl ⟨by rfl, ?_⟩) (by assumption) ?_; rotate_left; (focus ((intro wS hSw); (try dsimp only at hSw); obtain ⟨s0, s1, s2, s3, s4, s5, s6, s7, s8⟩ := hSw; go_simp; (try with_reducible rfl); done)); (try simp only [Act.put, List.setIfInBounds_toArray, List.set_cons_zero, List.set_cons_succ]))
            (refine takeH (i := 1) (v := ?_) rfl (by kernel_rfl) (by kernel_rfl) (by kernel_rfl) (fun _ _ _ h => h) (Or.inl ⟨by rfl, ?_⟩) (by assumption) ?_; rotate_left; (focus ((intro wS hSw); (try dsimp only at hSw); obtain ⟨s0, s1, s2, s3, s4, s5, s6, s7, s8⟩ := hSw; go_simp; (try with_reducible rfl); done)); (try simp only [Act.put, List.setIfInBounds_toArray, List.set_cons_zero, List.set_cons_succ]))
            (refine takeH (i := 2) (v := ?_) rfl (by kernel_rfl) (by kernel_rfl) (by kernel_rfl) (fun _ _ _ h => h) (Or.inl ⟨by rfl, ?_⟩) (by assumption) ?_; rotate_left; (focus ((intro wS hSw); (try dsimp only at hSw); obtain ⟨s0, s1, s2, s3, s4, s5, s6, s7, s8⟩ := hSw; go_simp; (try with_reducible rfl); done)); (try simp only [Act.put, List.setIfInBounds_toArray, List.set_cons_zero, List.set_cons_succ]))
            (refine takeH (i := 3) (v := ?_) rfl (by kernel_rfl) (by kernel_rfl) (by kernel_rfl) (fun _ _ _ h => h) (Or.inl ⟨by rfl, ?_⟩) (by assumption) ?_; rotate_left; (focus ((intro wS hSw); (try dsimp only at hSw); obtain ⟨s0, s1, s2, s3, s4, s5, s6, s7, s8⟩ := hSw; go_simp; (try with_reducible rfl); done)); (try simp only [Act.put, List.setIfInBounds_toArray, List.set_cons_zero, List.set_cons_succ]))
            (refine takeH (i := 5) (v := ?_) rfl (by kernel_rfl) (by kernel_rfl) (by kernel_rfl) (fun _ _ _ h => h) (Or.inl ⟨by rfl, ?_⟩) (by assumption) ?_; rotate_left; (focus ((intro wS hSw); (try dsimp only at hSw); obtain ⟨s0, s1, s2, s3, s4, s5, s6, s7, s8⟩ := hSw; go_simp; (try with_reducible rfl); done)); (try simp only [Act.put, List.setIfInBounds_toArray, List.set_cons_zero, List.set_cons_succ]))
            (refine takeH (i := 6) (v := ?_) rfl (by kernel_rfl) (by kernel_rfl) (by kernel_rfl) (fun _ _ _ h => h) (Or.inl ⟨by rfl, ?_⟩) (by assumption) ?_; rotate_left; (focus ((intro wS hSw); (try dsimp only at hSw); obtain ⟨s0, s1, s2, s3, s4, s5, s6, s7, s8⟩ := hSw; go_simp; (try with_reducible rfl); done)); (try simp only [Act.put, List.setIfInBounds_toArray, List.set_cons_zero, List.set_cons_succ]))
            (refine takeH (i := 7) (v := ?_) rfl (by kernel_rfl) (by kernel_rfl) (by kernel_rfl) (fun _ _ _ h => h) (Or.inl ⟨by rfl, ?_⟩) (by assumption) ?_; rotate_left; (focus ((intro wS hSw); (try dsimp only at hSw); obtain ⟨s0, s1, s2, s3, s4, s5, s6, s7, s8⟩ := hSw; go_simp; (try with_reducible rfl); done)); (try simp only [Act.put, List.setIfInBounds_toArray, List.set_cons_zero, List.set_cons_succ]))
            (refine takeH (i := 8) (v := ?_) rfl (by kernel_rfl) (by kernel_rfl) (by kernel_rfl) (fun _ _ _ h => h) (Or.inl ⟨by rfl, ?_⟩) (by assumption) ?_; rotate_left; (focus ((intro wS hSw); (try dsimp only at hSw); obtain ⟨s0, s1, s2, s3, s4, s5, s6, s7, s8⟩ := hSw; go_simp; (try with_reducible rfl); done)); (try simp only [Act.put, List.setIfInBounds_toArray, List.set_cons_zero, List.set_cons_succ]))
            refine aloneH (i := 4) rfl (by kernel_rfl) (fun K hK => ?_)
            rw [if_pos (by rfl)]
            go_simp; ((refine (HOp.out _ (below_same wd)).mono ?_); (rintro e w1 ⟨rfl, hb⟩); have HB1 := Lib.hid hb; clear hb; (try go_simp))
            refine hK.out _ _ (⟨cell_on HB1.out hHeld.1, cell_on HB1.out hHeld.2.1, cell_on HB1.out hHeld.2.2.1, cell_on HB1.out hHeld.2.2.2.1, cell_on HB1.out hHeld.2.2.2.2.1, cell_on HB1.out hHeld.2.2.2.2.2.1, cell_on HB1.out hHeld.2.2.2.2.2.2.1, cell_on HB1.out hHeld.2.2.2.2.2.2.2.1, cell_on HB1.out hHeld.2.2.2.2.2.2.2.2⟩) (fun hNew => ?_)
            clear hK K hHeld; (have hHeld := hNew); clear hNew; (try simp only [Act.put, List.setIfInBounds_toArray, List.set_cons_zero, List.set_cons_succ])
            refine aloneH (i := 9) rfl (by kernel_rfl) (fun K hK => ?_)
            rw [if_pos (by rfl)]
            go_simp; ((refine (HOd.out _ HB1.out).mono ?_); (rintro e w2 ⟨rfl, hb⟩); have HB2 := Lib.hid hb; clear hb; (try go_simp))
            refine hK.out _ _ (⟨cell_on HB2.out hHeld.1, cell_on HB2.out hHeld.2.1, cell_on HB2.out hHeld.2.2.1, cell_on HB2.out hHeld.2.2.2.1, cell_on HB2.out hHeld.2.2.2.2.1, cell_on HB2.out hHeld.2.2.2.2.2.1, cell_on HB2.out hHeld.2.2.2.2.2.2.1, cell_on HB2.out hHeld.2.2.2.2.2.2.2.1, cell_on HB2.out hHeld.2.2.2.2.2.2.2.2⟩) (fun hNew => ?_)
            clear hK K hHeld; (have hHeld := hNew); clear hNew; (try simp only [Act.put, List.setIfInBounds_toArray, List.set_cons_zero, List.set_cons_succ])
            (refine takeH (i := 10) (v := (.bool false)) rfl (by kernel_rfl) (by kernel_rfl) (by kernel_rfl) (fun _ _ _ h => h) (Or.inl ⟨by rfl, by (intro wS hSw); (try dsimp only at hSw); (obtain ⟨s0, s1, s2, s3, s4, s5, s6, s7, s8⟩ := hSw); go_simp; (first | done | simp)⟩) (by assumption) ?_; (try simp only [Act.put, List.setIfInBounds_toArray, List.set_cons_zero, List.set_cons_succ]))
            (refine takeH (i := 11) (v := ?_) rfl (by kernel_rfl) (by kernel_rfl) (by kernel_rfl) (fun _ _ _ h => h) (Or.inl ⟨by rfl, ?_⟩) (by assumption) ?_; rotate_left; (focus ((intro wS hSw); (try dsimp only at hSw); obtain ⟨s0, s1, s2, s3, s4, s5, s6, s7, s8⟩ := hSw; go_simp; (try with_reducible rfl); done)); (try simp only [Act.put, List.setIfInBounds_toArray, List.set_cons_zero, List.set_cons_succ]))
            (refine takeH (i := 12) (v := ?_) rfl (by kernel_rfl) (by kernel_rfl) (by kernel_rfl) (fun _ _ _ h => h) (Or.inl ⟨by rfl, ?_⟩) (by assumption) ?_; rotate_left; (focus ((intro wS hSw); (try dsimp only at hSw); obtain ⟨s0, s1, s2, s3, s4, s5, s6, s7, s8⟩ := hSw; go_simp; (try with_reducible rfl); done)); (try simp only [Act.put, List.setIfInBounds_toArray, List.set_cons_zero, List.set_cons_succ]))
            (refine takeH (i := 13) (v := ?_) rfl (by kernel_rfl) (by kernel_rfl) (by kernel_rfl) (fun _ _ _ h => h) (Or.inl ⟨by rfl, ?_⟩) (by assumption) ?_; rotate_left; (focus ((intro wS hSw); (try dsimp only at hSw); obtain ⟨s0, s1, s2, s3, s4, s5, s6, s7, s8⟩ := hSw; go_simp; (try with_reducible rfl); done)); (try simp only [Act.put, List.setIfInBounds_toArray, List.set_cons_zero, List.set_cons_succ]))
            (refine takeH (i := 14) (v := ?_) rfl (by kernel_rfl) (by kernel_rfl) (by kernel_rfl) (fun _ _ _ h => h) (Or.inl ⟨by rfl, ?_⟩) (by assumption) ?_; rotate_left; (focus ((intro wS hSw); (try dsimp only at hSw); obtain ⟨s0, s1, s2, s3, s4, s5, s6, s7, s8⟩ := hSw; go_simp; (try with_reducible rfl); done)); (try simp only [Act.put, List.setIfInBounds_toArray, List.set_cons_zero, List.set_cons_succ]))
            (refine takeH (i := 15) (v := ?_) rfl (by kernel_rfl) (by kernel_rfl) (by kernel_rfl) (fun _ _ _ h => h) (Or.inl ⟨by rfl, ?_⟩) (by assumption) ?_; rotate_left; (focus ((intro wS hSw); (try dsimp only at hSw); obtain ⟨s0, s1, s2, s3, s4, s5, s6, s7, s8⟩ := hSw; go_simp; (try with_reducible rfl); done)); (try simp only [Act.put, List.setIfInBounds_toArray, List.set_cons_zero, List.set_cons_succ]))
            (refine takeH (i := 16) (v := ?_) rfl (by kernel_rfl) (by kernel_rfl) (by kernel_rfl) (fun _ _ _ h => h) (Or.inl ⟨by rfl, ?_⟩) (by assumption) ?_; rotate_left; (focus ((intro wS hSw); (try dsimp only at hSw); obtain ⟨s0, s1, s2, s3, s4, s5, s6, s7, s8⟩ := hSw; go_simp; (try with_reducible rfl); done)); (try simp only [Act.put, List.setIfInBounds_toArray, List.set_cons_zero, List.set_cons_succ]))
            (refine takeH (i := 17) (v := ?_) rfl (by kernel_rfl) (by kernel_rfl) (by kernel_rfl) (fun _ _ _ h => h) (Or.inl ⟨by rfl, ?_⟩) (by assumption) ?_; rotate_left; (focus ((intro wS hSw); (try dsimp only at hSw); obtain ⟨s0, s1, s2, s3, s4, s5, s6, s7, s8⟩ := hSw; go_simp; (try with_reducible rfl); done)); (try simp only [Act.put, List.setIfInBounds_toArray, List.set_cons_zero, List.set_cons_succ]))
            (refine takeH (i := 18) (v := ?_) rfl (by kernel_rfl) (by kernel_rfl) (by kernel_rfl) (fun _ _ _ h => h) (Or.inl ⟨by rfl, ?_⟩) (by assumption) ?_; rotate_left; (focus ((intro wS hSw); (try dsimp only at hSw); obtain ⟨s0, s1, s2, s3, s4, s5, s6, s7, s8⟩ := hSw; go_simp; (try with_reducible rfl); done)); (try simp only [Act.put, List.setIfInBounds_toArray, List.set_cons_zero, List.set_cons_succ]))
            (refine takeH (i := 19) (v := ?_) rfl (by kernel_rfl) (by kernel_rfl) (by kernel_rfl) (fun _ _ _ h => h) (Or.inl ⟨by rfl, ?_⟩) (by assumption) ?_; rotate_left; (focus ((intro wS hSw); (try dsimp only at hSw); obtain ⟨s0, s1, s2, s3, s4, s5, s6, s7, s8⟩ := hSw; go_simp; (try with_reducible rfl); done)); (try simp only [Act.put, List.setIfInBounds_toArray, List.set_cons_zero, List.set_cons_succ]))
            (refine takeH (i := 21) (v := ?_) rfl (by kernel_rfl) (by kernel_rfl) (by kernel_rfl) (fun _ _ _ h => h) (Or.inl ⟨by rfl, ?_⟩) (by assumption) ?_; rotate_left; (focus ((intro wS hSw); (try dsimp only at hSw); obtain ⟨s0, s1, s2, s3, s4, s5, s6, s7, s8⟩ := hSw; go_simp; (try with_reducible rfl); done)); (try simp only [Act.put, List.setIfInBounds_toArray, List.set_cons_zero, List.set_cons_succ]))
            (refine takeH (i := 22) (v := ?_) rfl (by kernel_rfl) (by kernel_rfl) (by kernel_rfl) (fun _ _ _ h => h) (Or.inl ⟨by rfl, ?_⟩) (by assumption) ?_; rotate_left; (focus ((intro wS hSw); (try dsimp only at hSw); obtain ⟨s0, s1, s2, s3, s4, s5, s6, s7, s8⟩ := hSw; go_simp; (try with_reducible rfl); done)); (try simp only [Act.put, List.setIfInBounds_toArray, List.set_cons_zero, List.set_cons_succ]))
            (refine takeH (i := 23) (v := ?_) rfl (by kernel_rfl) (by kernel_rfl) (by kernel_rfl) (fun _ _ _ h => h) (Or.inl ⟨by rfl, ?_⟩) (by assumption) ?_; rotate_left; (focus ((intro wS hSw); (try dsimp only at hSw); obtain ⟨s0, s1, s2, s3, s4, s5, s6, s7, s8⟩ := hSw; go_simp; (try with_reducible rfl); done)); (try simp only [Act.put, List.setIfInBounds_toArray, List.set_cons_zero, List.set_cons_succ]))
            (refine takeH (i := 24) (v := ?_) rfl (by kernel_rfl) (by kernel_rfl) (by kernel_rfl) (fun _ _ _ h => h) (Or.inl ⟨by rfl, ?_⟩) (by assumption) ?_; rotate_left; (focus ((intro wS hSw); (try dsimp only at hSw); obtain ⟨s0, s1, s2, s3, s4, s5, s6, s7, s8⟩ := hSw; go_simp; (try with_reducible rfl); done)); (try simp only [Act.put, List.setIfInBounds_toArray, List.set_cons_zero, List.set_cons_succ]))
            (refine takeH (i := 25) (v := ?_) rfl (by kernel_rfl) (by kernel_rfl) (by kernel_rfl) (fun _ _ _ h => h) (Or.inl ⟨by rfl, ?_⟩) (by assumption) ?_; rotate_left; (focus ((intro wS hSw); (try dsimp only at hSw); obtain ⟨s0, s1, s2, s3, s4, s5, s6, s7, s8⟩ := hSw; go_simp; (try with_reducible rfl); done)); (try simp only [Act.put, List.setIfInBounds_toArray, List.set_cons_zero, List.set_cons_succ]))
            (refine takeH (i := 26) (v := ?_) rfl (by kernel_rfl) (by kernel_rfl) (by kernel_rfl) (fun _ _ _ h => h) (Or.inl ⟨by rfl, ?_⟩) (by assumption) ?_; rotate_left; (focus ((intro wS hSw); (try dsimp only at hSw); obtain ⟨s0, s1, s2, s3, s4, s5, s6, s7, s8⟩ := hSw; go_simp; (try with_reducible rfl); done)); (try simp only [Act.put, List.setIfInBounds_toArray, List.set_cons_zero, List.set_cons_succ]))
            (refine takeH (i := 27) (v := ?_) rfl (by kernel_rfl) (by kernel_rfl) (by kernel_rfl) (fun _ _ _ h => h) (Or.inl ⟨by rfl, ?_⟩) (by assumption) ?_; rotate_left; (focus ((intro wS hSw); (try dsimp only at hSw); obtain ⟨s0, s1, s2, s3, s4, s5, s6, s7, s8⟩ := hSw; go_simp; (try with_reducible rfl); done)); (try simp only [Act.put, List.setIfInBounds_toArray, List.set_cons_zero, List.set_cons_succ]))
            (refine takeH (i := 28) (v := ?_) rfl (by kernel_rfl) (by kernel_rfl) (by kernel_rfl) (fun _ _ _ h => h) (Or.inl ⟨by rfl, ?_⟩) (by assumption) ?_; rotate_left; (focus ((intro wS hSw); (try dsimp only at hSw); obtain ⟨s0, s1, s2, s3, s4, s5, s6, s7, s8⟩ := hSw; go_simp; (try with_reducible rfl); done)); (try simp only [Act.put, List.setIfInBounds_toArray, List.set_cons_zero, List.set_cons_succ]))
            refine aloneH (i := 20) rfl (by kernel_rfl) (fun K hK => ?_)
            rw [if_pos (by rfl)]
            go_simp; ((refine (HBz.out _ (below_then HB1.out HB2.out)).mono ?_); (rintro e w3 ⟨rfl, hb⟩); have HB3 := Lib.hid hb; clear hb; (try go_simp))
            refine hK.out _ _ (⟨cell_on HB3.out hHeld.1, cell_on HB3.out hHeld.2.1, cell_on HB3.out hHeld.2.2.1, cell_on HB3.out hHeld.2.2.2.1, cell_on HB3.out hHeld.2.2.2.2.1, cell_on HB3.out hHeld.2.2.2.2.2.1, cell_on HB3.out hHeld.2.2.2.2.2.2.1, cell_on HB3.out hHeld.2.2.2.2.2.2.2.1, cell_on HB3.out hHeld.2.2.2.2.2.2.2.2⟩) (fun hNew => ?_)
            clear hK K hHeld; (have hHeld := hNew); clear hNew; (try simp only [Act.put, List.setIfInBounds_toArray, List.set_cons_zero, List.set_cons_succ])
            refine aloneH (i := 29) rfl (by kernel_rfl) (fun K hK => ?_)
            rw [if_pos (by rfl)]
            go_simp; ((refine (HBe.out _ (below_then (below_then HB1.out HB2.out) HB3.out)).mono ?_); (rintro e w4 ⟨rfl, hb⟩); have HB4 := Lib.hid hb; clear hb; (try go_simp))
            refine hK.out _ _ (⟨cell_on HB4.out hHeld.1, cell_on HB4.out hHeld.2.1, cell_on HB4.out hHeld.2.2.1, cell_on HB4.out hHeld.2.2.2.1, cell_on HB4.out hHeld.2.2.2.2.1, cell_on HB4.out hHeld.2.2.2.2.2.1, cell_on HB4.out hHeld.2.2.2.2.2.2.1, cell_on HB4.out hHeld.2.2.2.2.2.2.2.1, cell_on HB4.out hHeld.2.2.2.2.2.2.2.2⟩) (fun hNew => ?_)
            clear hK K hHeld; (have hHeld := hNew); clear hNew; (try simp only [Act.put, List.setIfInBounds_toArray, List.set_cons_zero, List.set_cons_succ])
            (refine takeH (i := 30) (v := (.bool false)) rfl (by kernel_rfl) (by kernel_rfl) (by kernel_rfl) (fun _ _ _ h => h) (Or.inl ⟨by rfl, by (intro wS hSw); (try dsimp only at hSw); (obtain ⟨s0, s1, s2, s3, s4, s5, s6, s7, s8⟩ := hSw); go_simp; (first | done | simp)⟩) (by assumption) ?_; (try simp only [Act.put, List.setIfInBounds_toArray, List.set_cons_zero, List.set_cons_succ]))
            (refine takeH (i := 31) (v := ?_) rfl (by kernel_rfl) (by kernel_rfl) (by kernel_rfl) (fun _ _ _ h => h) (Or.inl ⟨by rfl, ?_⟩) (by assumption) ?_; rotate_left; (focus ((intro wS hSw); (try dsimp only at hSw); obtain ⟨s0, s1, s2, s3, s4, s5, s6, s7, s8⟩ := hSw; go_simp; (try with_reducible rfl); done)); (try simp only [Act.put, List.setIfInBounds_toArray, List.set_cons_zero, List.set_cons_succ]))
            refine wpAnyH_done (by kernel_rfl) ?_ _
            clear hHeld
            have HBi := Lib.hid (below_then HWd.out (below_then (below_then (below_then HB1.out HB2.out) HB3.out) HB4.out))
            go_wp2
            go_roundw
            case rel => exact ⟨j + 1, by omega, by go_num, Lib.hid (below_then HWi.out HBi.out)⟩
            case measure => simp [intOf]; omega
          · obtain rfl : j = 2 := by omega
            go_wp2
            have HWe := Lib.hid (below_then HWi.out (below_drew wi))
            have HHd := Lib.hid (H9.out.on HWe.out)
            obtain ⟨p0, p1, p2⟩ := row3a HHd.out.2.2.1
            refine wp_region_held_drew (S := fun V => V.cell? ⟨b8, 0, none⟩ = some (.string home) ∧ V.cell? ⟨b8, 1, none⟩ = some (.slice AO4 OD4.length cO4) ∧ V.cell? ⟨b8, 2, none⟩ = some (.slice AM4 M4.length cM4)) (by kernel_rfl) ⟨p0, p1, p2⟩ ?_
            intro hHeld
            clear p0 p1 p2
            generalize World.drew _ = wd at HWe HHd hHeld ⊢
            have HHm : Hid (∀ V, Below wd.heap.size wd V → Calls Tryz.prog 19 #[.pointer (some ⟨P2, 0, none⟩)] V fun e w' => e = .returned (.string home) ∧ V = w') := Lib.hid (fun V hV => code_home (HHd.out.on hV).1)
            have HKn : Hid (∀ V, Below wd.heap.size wd V → Calls Tryz.prog 9 #[.pointer (some ⟨P2, 0, none⟩)] V fun e w' => ∃ v T, e = .returned v ∧ AllK F4 T ∧ OwnS w' V.heap.size v (srtL T) ∧ Below V.heap.size V w') := Lib.hid (fun V hV => code_known (HHd.out.on hV).1 (fun T hT => by have := HRl.out.names hT; have := HLen.out; omega))
            have HKd : Hid (∀ V, Below wd.heap.size wd V → Calls Tryz.prog 20 #[.agg #[.string home, .slice AO4 OD4.length cO4, .slice AM4 M4.length cM4]] V fun e w' => ∃ v D, e = .returned v ∧ AllD M4 D ∧ OwnS w' V.heap.size v D ∧ Below V.heap.size V w') := Lib.hid (fun V hV => ref_known home AO4 OD4.length cO4 AM4 cM4 M4 V (HHd.out.on hV).2.2.2.2.1.1 (by have := HLen.out; omega) (fun r hr => (HRl.out.ok r hr).2))
            clear HHd
            (refine takeH (i := 0) (v := ?_) rfl (by kernel_rfl) (by kernel_rfl) (by kernel_rfl) (fun _ _ _ h => h) (Or.inl ⟨by rfl, ?_⟩) (by assumption) ?_; rotate_left; (focus ((intro wS hSw); (try dsimp only at hSw); obtain ⟨s0, s1, s2⟩ := hSw; go_simp; (try with_reducible rfl); done)); (try simp only [Act.put, List.setIfInBounds_toArray, List.set_cons_zero, List.set_cons_succ]))
            (refine takeH (i := 2) (v := ?_) rfl (by kernel_rfl) (by kernel_rfl) (by kernel_rfl) (fun _ _ _ h => h) (Or.inl ⟨by rfl, ?_⟩) (by assumption) ?_; rotate_left; (focus ((intro wS hSw); (try dsimp only at hSw); obtain ⟨s0, s1, s2⟩ := hSw; go_simp; (try with_reducible rfl); done)); (try simp only [Act.put, List.setIfInBounds_toArray, List.set_cons_zero, List.set_cons_succ]))
            refine aloneH (i := 1) rfl (by kernel_rfl) (fun K hK => ?_)
            rw [if_pos (by rfl)]
            go_simp; ((refine (HHm.out _ (below_same wd)).mono ?_); (rintro e wz ⟨rfl, rfl⟩); have HB1 : Hid (Below wd.heap.size wd wd) := Lib.hid (Below.refl _ _); (try go_simp))
            refine hK.out _ _ (hHeld) (fun hNew => ?_)
            clear hK K hHeld; (have hHeld := hNew); clear hNew; (try simp only [Act.put, List.setIfInBounds_toArray, List.set_cons_zero, List.set_cons_succ])
            (refine takeH (i := 3) (v := (.bool false)) rfl (by kernel_rfl) (by kernel_rfl) (by kernel_rfl) (fun _ _ _ h => h) (Or.inl ⟨by rfl, by (intro wS hSw); (try dsimp only at hSw); (obtain ⟨s0, s1, s2⟩ := hSw); go_simp; (first | done | simp)⟩) (by assumption) ?_; (try simp only [Act.put, List.setIfInBounds_toArray, List.set_cons_zero, List.set_cons_succ]))
            (refine takeH (i := 4) (v := ?_) rfl (by kernel_rfl) (by kernel_rfl) (by kernel_rfl) (fun _ _ _ h => h) (Or.inl ⟨by rfl, ?_⟩) (by assumption) ?_; rotate_left; (focus ((intro wS hSw); (try dsimp only at hSw); obtain ⟨s0, s1, s2⟩ := hSw; go_simp; (try with_reducible rfl); done)); (try simp only [Act.put, List.setIfInBounds_toArray, List.set_cons_zero, List.set_cons_succ]))
            (refine takeH (i := 5) (v := ?_) rfl (by kernel_rfl) (by kernel_rfl) (by kernel_rfl) (fun _ _ _ h => h) (Or.inl ⟨by rfl, ?_⟩) (by assumption) ?_; rotate_left; (focus ((intro wS hSw); (try dsimp only at hSw); obtain ⟨s0, s1, s2⟩ := hSw; go_simp; (try with_reducible rfl); done)); (try simp only [Act.put, List.setIfInBounds_toArray, List.set_cons_zero, List.set_cons_succ]))
            (refine takeH (i := 7) (v := ?_) rfl (by kernel_rfl) (by kernel_rfl) (by kernel_rfl) (fun _ _ _ h => h) (Or.inl ⟨by rfl, ?_⟩) (by assumption) ?_; rotate_left; (focus ((intro wS hSw); (try dsimp only at hSw); obtain ⟨s0, s1, s2⟩ := hSw; go_simp; (try with_reducible rfl); done)); (try simp only [Act.put, List.setIfInBounds_toArray, List.set_cons_zero, List.set_cons_succ]))
            refine aloneH (i := 6) rfl (by kernel_rfl) (fun K hK => ?_)
            rw [if_pos (by rfl)]
            go_simp; ((refine (HKn.out wd HB1.out).mono ?_); (rintro e w2 ⟨v3, T3, rfl, ht, ho, hb⟩); obtain ⟨A3, c3, hv3⟩ := ho.form; subst hv3; have HT3 := Lib.hid ht; have HO3 := Lib.hid ho; have HB2 := Lib.hid hb; clear hb ho ht; (try go_simp))
            refine hK.out _ _ (⟨cell_on HB2.out hHeld.1, cell_on HB2.out hHeld.2.1, cell_on HB2.out hHeld.2.2⟩) (fun hNew => ?_)
            clear hK K hHeld; (have hHeld := hNew); clear hNew; (try simp only [Act.put, List.setIfInBounds_toArray, List.set_cons_zero, List.set_cons_succ])
            refine aloneH (i := 8) rfl (by kernel_rfl) (fun K hK => ?_)
            rw [if_pos (by rfl)]
            go_simp; ((refine (HKd.out w2 (below_then HB1.out HB2.out)).mono ?_); (rintro e w3 ⟨v4, D4, rfl, ht, ho, hb⟩); obtain ⟨A4, c4, hv4⟩ := ho.form; subst hv4; have HT4 := Lib.hid ht; have HO4 := Lib.hid ho; have HB3 := Lib.hid hb; clear hb ho ht; (try go_simp))
            refine hK.out _ _ (⟨cell_on HB3.out hHeld.1, cell_on HB3.out hHeld.2.1, cell_on HB3.out hHeld.2.2⟩) (fun hNew => ?_)
            clear hK K hHeld; (have hHeld := hNew); clear hNew; (try simp only [Act.put, List.setIfInBounds_toArray, List.set_cons_zero, List.set_cons_succ])
            refine aloneH (i := 9) rfl (by kernel_rfl) (fun K hK => ?_)
            rw [if_pos (by rfl)]
            have hS3 := strs_own (HO3.out.on HB3.out) (fun s hs => (HT3.out.1.2 s (srtL_mem hs)).1) (by rw [srtL_len]; have := HRl.out.names HT3.out.1; have := HLen.out.2; omega)
            have hS4 := strs_own HO4.out (fun s hs => by
              obtain ⟨r, hr, e⟩ := List.mem_map.1 ((HT4.out.2 s).1 hs)
              rw [← e]; exact (HRl.out.ok r hr).1) (by rw [← HRl.out.known HT3.out HT4.out, srtL_len]; have := HRl.out.names HT3.out.1; have := HLen.out.2; omega)
            have hSm := ref_same (srtL T3) D4 A3 A4 c3 c4 w3 (by rw [srtL_len]; have := HRl.out.names HT3.out.1; have := HLen.out.2; omega) hS3 hS4
            rw [decide_eq_true (HRl.out.known HT3.out HT4.out)] at hSm
            have HSm := Lib.hid hSm
            clear hSm hS3 hS4
            go_simp; ((refine HSm.out.mono ?_); (rintro e w4 ⟨rfl, hb⟩); have HB4 := Lib.hid hb; clear hb; (try go_simp))
            refine hK.out _ _ (⟨cell_on HB4.out hHeld.1, cell_on HB4.out hHeld.2.1, cell_on HB4.out hHeld.2.2⟩) (fun hNew => ?_)
            clear hK K hHeld; (have hHeld := hNew); clear hNew; (try simp only [Act.put, List.setIfInBounds_toArray, List.set_cons_zero, List.set_cons_succ])
            (refine takeH (i := 10) (v := ?_) rfl (by kernel_rfl) (by kernel_rfl) (by kernel_rfl) (fun _ _ _ h => h) (Or.inl ⟨by rfl, ?_⟩) (by assumption) ?_; rotate_left; (focus ((intro wS hSw); (try dsimp only at hSw); obtain ⟨s0, s1, s2⟩ := hSw; go_simp; (try with_reducible rfl); done)); (try simp only [Act.put, List.setIfInBounds_toArray, List.set_cons_zero, List.set_cons_succ]))
            (refine takeH (i := 11) (v := ?_) rfl (by kernel_rfl) (by kernel_rfl) (by kernel_rfl) (fun _ _ _ h => h) (Or.inl ⟨by rfl, ?_⟩) (by assumption) ?_; rotate_left; (focus ((intro wS hSw); (try dsimp only at hSw); obtain ⟨s0, s1, s2⟩ := hSw; go_simp; (try with_reducible rfl); done)); (try simp only [Act.put, List.setIfInBounds_toArray, List.set_cons_zero, List.set_cons_succ]))
            refine wpAnyH_done (by kernel_rfl) ?_ _
            clear hHeld
            have HBj := Lib.hid (below_then HWe.out (below_then (below_then (below_then HB1.out HB2.out) HB3.out) HB4.out))
            go_wp2
            go_roundw
            case rel => exact ⟨k + 1, P2, B2, bm2, n4, base2, O4, F4, AO4, cO4, OD4, AM4, cM4, M4, by omega, by go_num, rfl, Lib.hid (H9.out.on HBj.out)⟩
            case measure => simp [intOf]; omega
      · have hK' : (z.1 == 0) = false := beq_false_of_ne hK
        have hOD := HS.out.2.2.2.2.2.1.copy H2.out.2.2.1
        have hop := status_rel H23.out hOD (HM.out.below (HS.out.2.2.2.2.2.2.2.1.2.trans (HB03.out.mono HS.out.2.2.2.2.2.2.2.1.2.size))) z.2.1 z.2.2.1 z.2.2.2.1 z.2.2.2.2.1 z.2.2.2.2.2 (by have := HSz.out; omega) (by have := HSz.out; omega) (by have := H2.out.2.1; unfold maxLen; omega)
        have hch : ∀ V, RowSt V AM M → Calls Tryz.prog 13 #[.agg #[.string home, .slice AO OD.length cO, .slice AM M.length cM], .string z.2.1, .string z.2.2.1, .agg #[.int .i64 z.2.2.2.1, .int .i64 z.2.2.2.2.1, .int .i64 z.2.2.2.2.2]] V (StQ V home AO OD.length cO M z.2.1 z.2.2.1 z.2.2.2.1 z.2.2.2.2.1 z.2.2.2.2.2) := fun V hV => ref_pset home AO OD.length cO AM cM M _ _ _ _ _ V hV HS.out.2.2.2.2.1.2 (by have := HLen.out; omega) (by have := HSz.out; omega) (by have := HSz.out; omega)
        unfold StQ at hch
        have hln := stL_len M z.2.1 z.2.2.1 (z.2.2.2.1, z.2.2.2.2.1, z.2.2.2.2.2)
        generalize stE M z.2.1 z.2.2.1 z.2.2.2.1 z.2.2.2.2.1 = E at hop hch
        generalize stL M z.2.1 z.2.2.1 (z.2.2.2.1, z.2.2.2.2.1, z.2.2.2.2.2) = M4 at hop hch hln
        have HOp := Lib.hid hop
        have HCh := Lib.hid hch
        have HLn4 := Lib.hid hln
        clear hop hch hK hOD hln
        go_wp2_with (go_at_call 12; refine HOp.out.mono ?_; rintro e w4 ⟨rfl, hb4, hu4, F4, h4, hr4⟩; have H4 := Lib.hid (And.intro h4 (And.intro hb4 (And.intro hu4 hr4))); clear h4 hb4 hu4 hr4; refine Stop.out ?_)
        unfold Stop
        have HB14 : Hid (Below base2 w1 w4) := Lib.hid (HB13.out.trans H4.out.2.1)
        have HU4 : Hid (∀ i, w2.heap.size ≤ i → i < w3.heap.size → w4.heap[i]? = w3.heap[i]?) := Lib.hid (fun i h1 h2 => H4.out.2.2.1 i h2 (by have := H2.out.1.2.1.bmlt; omega) (fun s L' e => by have := (H2.out.1.2.1.2.1 s i L' e).1.lt; omega))
        have HS4 := Lib.hid (HSa.out.1.on (HBe.out ▸ HB14.out))
        clear e0 e1 e2 e3 e4 e5 q0 q1
        obtain ⟨e0, e1, e2, e3, e4, e5⟩ := cellsOpP ((HB14.out.block _ (by have := HS1.out; omega)).trans HSa.out.2.1)
        obtain ⟨p0, p1, p2⟩ := row3a HS4.out.2.2.1
        go_wp2_with (go_at_call 13; refine (HCh.out _ HS4.out.2.2.2.2.1.1).mono ?_; rintro e w5 ⟨AM4, cM4, rfl, hr5, hn5, hb5⟩; have H5 := Lib.hid (And.intro hr5 (And.intro hn5 hb5)); clear hr5 hn5 hb5; refine Stop.out ?_)
        unfold Stop
        have HS5 := Lib.hid (HS4.out.on H5.out.2.2)
        clear p0 p1 p2 e0 e1 e2 e3 e4 e5
        obtain ⟨p0, p1, p2⟩ := row3a HS5.out.2.2.1
        obtain ⟨z0, z1, z2⟩ := frz HS5.out.2.2.1
        have hgr : w5.grownBy (((w5.setCell ⟨b8, 0, none⟩ (.string home)).setCell ⟨b8, 1, none⟩ (.slice AO OD.length cO)).setCell ⟨b8, 2, none⟩ (.slice AM4 M4.length cM4)) (some b8) := grown3
        have hb8 : w.heap.size < b8 := HS5.out.2.2.2.2.2.2.2.2
        have H9 : Hid (PsS w x home b8 P2 B2 bm2 (n2 + 1) base2 O F4 AO cO OD AM4 cM4 M4 (k + 1) (((w5.setCell ⟨b8, 0, none⟩ (.string home)).setCell ⟨b8, 1, none⟩ (.slice AO OD.length cO)).setCell ⟨b8, 2, none⟩ (.slice AM4 M4.length cM4))) := Lib.hid
          ⟨((H4.out.1.on H5.out.2.2).box HS5.out.2.2.1 hgr), by have := H2.out.2.1; omega, set3 HS5.out.2.2.1,
           ⟨HS5.out.2.2.2.1.1.others (S := fun i => i = b8) (fun hn q hq hs => HS5.out.2.2.2.1.1.no_box HS5.out.2.2.1 (by simp) (by simp) (by simp) hn q hq hs) (by simp) (fun i hi => set3_other hi), HS5.out.2.2.2.1.2⟩,
           ⟨H5.out.1.others (S := fun i => i = b8) (fun hn q hq hs => H5.out.1.no_box HS5.out.2.2.1 (by simp) (by simp) hn q hq hs) (by simp) (fun i hi => set3_other hi), H5.out.2.1⟩,
           H4.out.2.2.2, ⟨by have := HS.out.2.2.2.2.2.2.1.1; omega, by have := HS.out.2.2.2.2.2.2.1.2; have := HLn4.out; omega⟩, ⟨(set3_other (by omega)).trans HS5.out.2.2.2.2.2.2.2.1.1, set3_below HS5.out.2.2.2.2.2.2.2.1.2 (by omega)⟩, hb8⟩
        have HPo : Hid (PpAt (((w5.setCell ⟨b8, 0, none⟩ (.string home)).setCell ⟨b8, 1, none⟩ (.slice AO OD.length cO)).setCell ⟨b8, 2, none⟩ (.slice AM4 M4.length cM4)) base P B0 bm n home O F) := Lib.hid (HS5.out.1.box HS5.out.2.2.1 hgr)
        have HO9 : Hid (OwnS (((w5.setCell ⟨b8, 0, none⟩ (.string home)).setCell ⟨b8, 1, none⟩ (.slice AO OD.length cO)).setCell ⟨b8, 2, none⟩ (.slice AM4 M4.length cM4)) w2.heap.size (.slice A1 (srtL T1).length c1) (srtL T1)) := Lib.hid ((((ownS_less HO1.out HSp.out.1.size).up HU4.out).on H5.out.2.2).box HS5.out.2.2.1 hgr)
        have HZ9 : Hid ((((w5.setCell ⟨b8, 0, none⟩ (.string home)).setCell ⟨b8, 1, none⟩ (.slice AO OD.length cO)).setCell ⟨b8, 2, none⟩ (.slice AM4 M4.length cM4)).heap[wr.heap.size]? = some (.cells #[.int .i64 z.1, .string z.2.1, .string z.2.2.1, .int .i64 z.2.2.2.1, .int .i64 z.2.2.2.2.1, .int .i64 z.2.2.2.2.2] 26 (0, 0))) := Lib.hid
          ((set3_other (by have := heapLt HS.out.2.2.1; omega)).trans (heap_on H5.out.2.2 ((HB14.out.block _ (by have := HS1.out; omega)).trans HSa.out.2.1)))
        clear hgr hb8 HOp HCh HB14 HU4 H23 HB23 HB13 HSp HB3 HLn4
        go_wp2_with (go_at_call 9; refine Stop.out ?_)
        unfold Stop
        generalize hw6 : World.setCell _ ⟨b8, 2, none⟩ (.slice AM4 M4.length cM4) = w6 at H9 HPo HO9 HZ9 ⊢
        clear hw6 p0 p1 p2 z0 z1 z2 HS4 HS5 H4 H5 HSa
        generalize hn4 : n2 + 1 = n4 at H9
        obtain ⟨O4, hO4⟩ : ∃ O4, O4 = O := ⟨_, rfl⟩
        obtain ⟨AO4, hAO4⟩ : ∃ AO4, AO4 = AO := ⟨_, rfl⟩
        obtain ⟨cO4, hcO4⟩ : ∃ cO4, cO4 = cO := ⟨_, rfl⟩
        obtain ⟨OD4, hOD4⟩ : ∃ OD4, OD4 = OD := ⟨_, rfl⟩
        rw [← hO4, ← hAO4, ← hcO4, ← hOD4] at H9
        clear hn4 hO4 hAO4 hcO4 hOD4
        have HK2 := code_known HPo.out (fun T hT => by have := HBd.out T hT; omega)
        refine HK2.mono ?_
        rintro e w7 ⟨v2, T2, rfl, ht, ho, hb⟩
        obtain ⟨A7, c7, hv2⟩ := ho.form
        subst hv2
        have HB7 := Lib.hid hb
        have hs2 := strs_own ho (fun s hs => (ht.1.2 s (srtL_mem hs)).1) (by rw [srtL_len]; have := HBd.out _ ht.1; omega)
        have hs1 := strs_own (HO9.out.on hb) (fun s hs => (HT1.out.1.2 s (srtL_mem hs)).1) (by rw [srtL_len]; have := HBd.out _ HT1.out.1; omega)
        have hSm := ref_same (srtL T2) (srtL T1) A7 A1 c7 c1 w7 (by rw [srtL_len]; have := HBd.out _ ht.1; omega) hs2 hs1
        rw [decide_eq_true (all_eq ht HT1.out)] at hSm
        have HSm := Lib.hid hSm
        clear ht ho hb hs1 hs2 hSm HK2
        go_wp2_with (go_at_call 14; refine HSm.out.mono ?_; rintro e w8 ⟨rfl, hb8⟩; have HB8 := Lib.hid (below_then HB7.out hb8); clear hb8; refine Stop.out ?_)
        unfold Stop
        have H8 := Lib.hid (H9.out.on HB8.out)
        obtain ⟨x0, x1, x2, x3, x4, x5⟩ := cellsOpP H8.out.2.2.2.2.2.2.2.1.1
        obtain ⟨e0, e1, e2, e3, e4, e5⟩ := cellsOpP (heap_on HB8.out HZ9.out)
        have hrow := box2OpP (heap_alloc_new w8 (.cells #[.int .i64 x.1, .string x.2.1, .string x.2.2.1, .int .i64 x.2.2.2.1, .int .i64 x.2.2.2.2.1, .int .i64 x.2.2.2.2.2, .int .i64 z.1, .string z.2.1, .string z.2.2.1, .int .i64 z.2.2.2.1, .int .i64 z.2.2.2.2.1, .int .i64 z.2.2.2.2.2] 26))
        have HRow := Lib.hid hrow
        have HP9 := Lib.hid (H8.out.on (below_alloc w8 (.cells #[.int .i64 x.1, .string x.2.1, .string x.2.2.1, .int .i64 x.2.2.2.1, .int .i64 x.2.2.2.2.1, .int .i64 x.2.2.2.2.2, .int .i64 z.1, .string z.2.1, .string z.2.2.1, .int .i64 z.2.2.2.1, .int .i64 z.2.2.2.2.1, .int .i64 z.2.2.2.2.2] 26)))
        clear hrow H9 H8 HO9 HZ9 HPo HB7 HB8 HSm HO1 HT1
        go_wp2
        generalize hw9 : World.alloc w8 (.cells #[.int .i64 x.1, .string x.2.1, .string x.2.2.1, .int .i64 x.2.2.2.1, .int .i64 x.2.2.2.2.1, .int .i64 x.2.2.2.2.2, .int .i64 z.1, .string z.2.1, .string z.2.2.1, .int .i64 z.2.2.2.1, .int .i64 z.2.2.2.2.1, .int .i64 z.2.2.2.2.2] 26) = w9 at HRow HP9 ⊢
        clear hw9 x0 x1 x2 x3 x4 x5 e0 e1 e2 e3 e4 e5
        have H9 := Lib.hid HP9.out
        have HRl := Lib.hid HP9.out.2.2.2.2.2.1
        have HLen : Hid (OD4.length ≤ 41 ∧ M4.length ≤ 41) := Lib.hid (by have := HP9.out.2.2.2.2.2.2.1; omega)
        have HMx := Lib.hid (HM.out.below HP9.out.2.2.2.2.2.2.2.1.2)
        clear HP9
        go_loopw [107] (fun i wi => ∃ (j : Nat), j ≤ 2 ∧ i = .int .i64 j ∧ Hid (Below w9.heap.size w9 wi)) (fun i _ => 2 - (intOf i).toNat)
        case atStart => exact ⟨0, by omega, rfl, Lib.hid (below_same _)⟩
        case round =>
          rename World => wi
          obtain ⟨j, hj, rfl, HWi⟩ := hrel
          by_cases hjt : j < 2
          · have hjt' : (j : Int) < 2 := by omega
            have hsz2 : ∀ y ∈ [x, z], y.2.1.size ≤ 100 ∧ y.2.2.1.size ≤ 100 := fun y hy => by
              rcases List.mem_cons.1 hy with rfl | hy
              · exact HR.out.2.2
              · simp at hy
                subst hy
                exact HSz.out
            obtain ⟨bb, oo, hbo, _, t0, t1, t2, t3, t4, t5⟩ := (HRow.out.on HWi.out).at_ j (by simpa using hjt)
            injection hbo with hbo
            injection hbo with hb0 hb1 _
            subst hb0 hb1
            rw [Nat.zero_add] at t0 t1 t2 t3 t4 t5
            have hy2 := hsz2 _ (List.getElem_mem (l := [x, z]) (n := j) (by simpa using hjt))
            obtain ⟨y, hy⟩ : ∃ y, y = [x, z][j]'(by simpa using hjt) := ⟨_, rfl⟩
            rw [← hy] at t0 t1 t2 t3 t4 t5 hy2
            have HYs := Lib.hid hy2
            clear hy hy2 hsz2
            go_wp2
            have hnew := heap_alloc_new wi (.cells #[.int .i64 y.1, .string y.2.1, .string y.2.2.1, .int .i64 y.2.2.2.1, .int .i64 y.2.2.2.2.1, .int .i64 y.2.2.2.2.2] 26)
            have hba := below_then (below_alloc wi (.cells #[.int .i64 y.1, .string y.2.1, .string y.2.2.1, .int .i64 y.2.2.2.1, .int .i64 y.2.2.2.2.1, .int .i64 y.2.2.2.2.2] 26)) (below_drew _)
            obtain ⟨n0, n1, n2', n3, n4', n5⟩ := cellsOpP (heap_on (below_drew _) hnew)
            have HHd := Lib.hid (H9.out.on (below_then HWi.out hba))
            have HMd := Lib.hid (HMx.out.below (below_then HWi.out hba))
            have HWd := Lib.hid hba
            obtain ⟨p0, p1, p2⟩ := row3a HHd.out.2.2.1
            clear hnew hba t0 t1 t2 t3 t4 t5
            refine wp_region_held_drew (S := fun V => V.cell? ⟨wi.heap.size, 0, none⟩ = some (.int .i64 y.1) ∧ V.cell? ⟨wi.heap.size, 1, none⟩ = some (.string y.2.1) ∧ V.cell? ⟨wi.heap.size, 2, none⟩ = some (.string y.2.2.1) ∧ V.cell? ⟨wi.heap.size, 3, none⟩ = some (.int .i64 y.2.2.2.1) ∧ V.cell? ⟨wi.heap.size, 4, none⟩ = some (.int .i64 y.2.2.2.2.1) ∧ V.cell? ⟨wi.heap.size, 5, none⟩ = some (.int .i64 y.2.2.2.2.2) ∧ V.cell? ⟨b8, 0, none⟩ = some (.string home) ∧ V.cell? ⟨b8, 1, none⟩ = some (.slice AO4 OD4.length cO4) ∧ V.cell? ⟨b8, 2, none⟩ = some (.slice AM4 M4.length cM4)) (by kernel_rfl) ⟨n0, n1, n2', n3, n4', n5, p0, p1, p2⟩ ?_
            intro hHeld
            clear n0 n1 n2' n3 n4' n5 p0 p1 p2
            generalize World.drew _ = wd at HHd HMd HWd hHeld ⊢
            have hq1 := HRl.out.opted y.2.2.2.1
            have hq2 := HRl.out.biz (home := home) (c := y.2.1) (m := y.2.2.1) (by unfold okKey; rw [ByteArray.size_append]; have := HYs.out; omega) y.2.2.2.2.1
            have HOp : Hid (∀ V, Below wd.heap.size wd V → Calls Tryz.prog 15 #[.pointer (some ⟨P2, 0, none⟩), .int .i64 y.2.2.2.1] V fun e w' => e = .returned (.bool (atB O4 y.2.2.2.1)) ∧ Below V.heap.size V w') := Lib.hid (fun V hV => code_opted (HHd.out.on hV).1 _)
            have HOd : Hid (∀ V, Below wd.heap.size wd V → Calls Tryz.prog 16 #[.agg #[.string home, .slice AO4 OD4.length cO4, .slice AM4 M4.length cM4], .int .i64 y.2.2.2.1] V fun e w' => e = .returned (.bool (atB OD4 y.2.2.2.1)) ∧ Below V.heap.size V w') := Lib.hid (fun V hV => ref_opted home AO4 cO4 OD4 AM4 M4.length cM4 _ V (HHd.out.on hV).2.2.2.1.1 (by have := HLen.out; omega))
            have HBz : Hid (∀ V, Below wd.heap.size wd V → Calls Tryz.prog 17 #[.pointer (some ⟨P2, 0, none⟩), .string y.2.1, .string y.2.2.1, .int .i64 y.2.2.2.2.1] V fun e w' => e = .returned (.bool (bizB home F4 y.2.1 y.2.2.1 y.2.2.2.2.1)) ∧ Below V.heap.size V w') := Lib.hid (fun V hV => code_business (HHd.out.on hV).1 (HMd.out.below hV) _ _ _ (by have := HYs.out; omega) (by have := HYs.out; omega))
            have HBe : Hid (∀ V, Below wd.heap.size wd V → Calls Tryz.prog 18 #[.agg #[.string home, .slice AO4 OD4.length cO4, .slice AM4 M4.length cM4], .string y.2.1, .string y.2.2.1, .int .i64 y.2.2.2.2.1] V fun e w' => e = .returned (.bool (bizD home M4 y.2.1 y.2.2.1 y.2.2.2.2.1)) ∧ Below V.heap.size V w') := Lib.hid (fun V hV => ref_business home AO4 OD4.length cO4 AM4 cM4 M4 _ _ _ V (HHd.out.on hV).2.2.2.2.1.1 (by have := HLen.out; omega) (by have := HYs.out; omega) (by have := HYs.out; omega))
            rw [← hq1] at HOd
            rw [← hq2] at HBe
            generalize atB O4 y.2.2.2.1 = q1 at HOp HOd
            generalize bizB home F4 y.2.1 y.2.2.1 y.2.2.2.2.1 = q2 at HBz HBe
            clear hq1 hq2 HHd HMd
            (refine takeH (i := 0) (v := ?_) rfl (by kernel_rfl) (by kernel_rfl) (by kernel_rfl) (fun _ _ _ h => h) (Or.inl ⟨by rfl, ?_⟩) (by assumption) ?_; rotate_left; (focus ((intro wS hSw); (try dsimp only at hSw); obtain ⟨s0, s1, s2, s3, s4, s5, s6, s7, s8⟩ := hSw; go_simp; (try with_reducible rfl); done)); (try simp only [Act.put, List.setIfInBounds_toArray, List.set_cons_zero, List.set_cons_succ]))
            (refine takeH (i := 1) (v := ?_) rfl (by kernel_rfl) (by kernel_rfl) (by kernel_rfl) (fun _ _ _ h => h) (Or.inl ⟨by rfl, ?_⟩) (by assumption) ?_; rotate_left; (focus ((intro wS hSw); (try dsimp only at hSw); obtain ⟨s0, s1, s2, s3, s4, s5, s6, s7, s8⟩ := hSw; go_simp; (try with_reducible rfl); done)); (try simp only [Act.put, List.setIfInBounds_toArray, List.set_cons_zero, List.set_cons_succ]))
            (refine takeH (i := 2) (v := ?_) rfl (by kernel_rfl) (by kernel_rfl) (by kernel_rfl) (fun _ _ _ h => h) (Or.inl ⟨by rfl, ?_⟩) (by assumption) ?_; rotate_left; (focus ((intro wS hSw); (try dsimp only at hSw); obtain ⟨s0, s1, s2, s3, s4, s5, s6, s7, s8⟩ := hSw; go_simp; (try with_reducible rfl); done)); (try simp only [Act.put, List.setIfInBounds_toArray, List.set_cons_zero, List.set_cons_succ]))
            (refine takeH (i := 3) (v := ?_) rfl (by kernel_rfl) (by kernel_rfl) (by kernel_rfl) (fun _ _ _ h => h) (Or.inl ⟨by rfl, ?_⟩) (by assumption) ?_; rotate_left; (focus ((intro wS hSw); (try dsimp only at hSw); obtain ⟨s0, s1, s2, s3, s4, s5, s6, s7, s8⟩ := hSw; go_simp; (try with_reducible rfl); done)); (try simp only [Act.put, List.setIfInBounds_toArray, List.set_cons_zero, List.set_cons_succ]))
            (refine takeH (i := 5) (v := ?_) rfl (by kernel_rfl) (by kernel_rfl) (by kernel_rfl) (fun _ _ _ h => h) (Or.inl ⟨by rfl, ?_⟩) (by assumption) ?_; rotate_left; (focus ((intro wS hSw); (try dsimp only at hSw); obtain ⟨s0, s1, s2, s3, s4, s5, s6, s7, s8⟩ := hSw; go_simp; (try with_reducible rfl); done)); (try simp only [Act.put, List.setIfInBounds_toArray, List.set_cons_zero, List.set_cons_succ]))
            (refine takeH (i := 6) (v := ?_) rfl (by kernel_rfl) (by kernel_rfl) (by kernel_rfl) (fun _ _ _ h => h) (Or.inl ⟨by rfl, ?_⟩) (by assumption) ?_; rotate_left; (focus ((intro wS hSw); (try dsimp only at hSw); obtain ⟨s0, s1, s2, s3, s4, s5, s6, s7, s8⟩ := hSw; go_simp; (try with_reducible rfl); done)); (try simp only [Act.put, List.setIfInBounds_toArray, List.set_cons_zero, List.set_cons_succ]))
            (refine takeH (i := 7) (v := ?_) rfl (by kernel_rfl) (by kernel_rfl) (by kernel_rfl) (fun _ _ _ h => h) (Or.inl ⟨by rfl, ?_⟩) (by assumption) ?_; rotate_left; (focus ((intro wS hSw); (try dsimp only at hSw); obtain ⟨s0, s1, s2, s3, s4, s5, s6, s7, s8⟩ := hSw; go_simp; (try with_reducible rfl); done)); (try simp only [Act.put, List.setIfInBounds_toArray, List.set_cons_zero, List.set_cons_succ]))
            (refine takeH (i := 8) (v := ?_) rfl (by kernel_rfl) (by kernel_rfl) (by kernel_rfl) (fun _ _ _ h => h) (Or.inl ⟨by rfl, ?_⟩) (by assumption) ?_; rotate_left; (focus ((intro wS hSw); (try dsimp only at hSw); obtain ⟨s0, s1, s2, s3, s4, s5, s6, s7, s8⟩ := hSw; go_simp; (try with_reducible rfl); done)); (try simp only [Act.put, List.setIfInBounds_toArray, List.set_cons_zero, List.set_cons_succ]))
            refine aloneH (i := 4) rfl (by kernel_rfl) (fun K hK => ?_)
            rw [if_pos (by rfl)]
            go_simp; ((refine (HOp.out _ (below_same wd)).mono ?_); (rintro e w1 ⟨rfl, hb⟩); have HB1 := Lib.hid hb; clear hb; (try go_simp))
            refine hK.out _ _ (⟨cell_on HB1.out hHeld.1, cell_on HB1.out hHeld.2.1, cell_on HB1.out hHeld.2.2.1, cell_on HB1.out hHeld.2.2.2.1, cell_on HB1.out hHeld.2.2.2.2.1, cell_on HB1.out hHeld.2.2.2.2.2.1, cell_on HB1.out hHeld.2.2.2.2.2.2.1, cell_on HB1.out hHeld.2.2.2.2.2.2.2.1, cell_on HB1.out hHeld.2.2.2.2.2.2.2.2⟩) (fun hNew => ?_)
            clear hK K hHeld; (have hHeld := hNew); clear hNew; (try simp only [Act.put, List.setIfInBounds_toArray, List.set_cons_zero, List.set_cons_succ])
            refine aloneH (i := 9) rfl (by kernel_rfl) (fun K hK => ?_)
            rw [if_pos (by rfl)]
            go_simp; ((refine (HOd.out _ HB1.out).mono ?_); (rintro e w2 ⟨rfl, hb⟩); have HB2 := Lib.hid hb; clear hb; (try go_simp))
            refine hK.out _ _ (⟨cell_on HB2.out hHeld.1, cell_on HB2.out hHeld.2.1, cell_on HB2.out hHeld.2.2.1, cell_on HB2.out hHeld.2.2.2.1, cell_on HB2.out hHeld.2.2.2.2.1, cell_on HB2.out hHeld.2.2.2.2.2.1, cell_on HB2.out hHeld.2.2.2.2.2.2.1, cell_on HB2.out hHeld.2.2.2.2.2.2.2.1, cell_on HB2.out hHeld.2.2.2.2.2.2.2.2⟩) (fun hNew => ?_)
            clear hK K hHeld; (have hHeld := hNew); clear hNew; (try simp only [Act.put, List.setIfInBounds_toArray, List.set_cons_zero, List.set_cons_succ])
            (refine takeH (i := 10) (v := (.bool false)) rfl (by kernel_rfl) (by kernel_rfl) (by kernel_rfl) (fun _ _ _ h => h) (Or.inl ⟨by rfl, by (intro wS hSw); (try dsimp only at hSw); (obtain ⟨s0, s1, s2, s3, s4, s5, s6, s7, s8⟩ := hSw); go_simp; (first | done | simp)⟩) (by assumption) ?_; (try simp only [Act.put, List.setIfInBounds_toArray, List.set_cons_zero, List.set_cons_succ]))
            (refine takeH (i := 11) (v := ?_) rfl (by kernel_rfl) (by kernel_rfl) (by kernel_rfl) (fun _ _ _ h => h) (Or.inl ⟨by rfl, ?_⟩) (by assumption) ?_; rotate_left; (focus ((intro wS hSw); (try dsimp only at hSw); obtain ⟨s0, s1, s2, s3, s4, s5, s6, s7, s8⟩ := hSw; go_simp; (try with_reducible rfl); done)); (try simp only [Act.put, List.setIfInBounds_toArray, List.set_cons_zero, List.set_cons_succ]))
            (refine takeH (i := 12) (v := ?_) rfl (by kernel_rfl) (by kernel_rfl) (by kernel_rfl) (fun _ _ _ h => h) (Or.inl ⟨by rfl, ?_⟩) (by assumption) ?_; rotate_left; (focus ((intro wS hSw); (try dsimp only at hSw); obtain ⟨s0, s1, s2, s3, s4, s5, s6, s7, s8⟩ := hSw; go_simp; (try with_reducible rfl); done)); (try simp only [Act.put, List.setIfInBounds_toArray, List.set_cons_zero, List.set_cons_succ]))
            (refine takeH (i := 13) (v := ?_) rfl (by kernel_rfl) (by kernel_rfl) (by kernel_rfl) (fun _ _ _ h => h) (Or.inl ⟨by rfl, ?_⟩) (by assumption) ?_; rotate_left; (focus ((intro wS hSw); (try dsimp only at hSw); obtain ⟨s0, s1, s2, s3, s4, s5, s6, s7, s8⟩ := hSw; go_simp; (try with_reducible rfl); done)); (try simp only [Act.put, List.setIfInBounds_toArray, List.set_cons_zero, List.set_cons_succ]))
            (refine takeH (i := 14) (v := ?_) rfl (by kernel_rfl) (by kernel_rfl) (by kernel_rfl) (fun _ _ _ h => h) (Or.inl ⟨by rfl, ?_⟩) (by assumption) ?_; rotate_left; (focus ((intro wS hSw); (try dsimp only at hSw); obtain ⟨s0, s1, s2, s3, s4, s5, s6, s7, s8⟩ := hSw; go_simp; (try with_reducible rfl); done)); (try simp only [Act.put, List.setIfInBounds_toArray, List.set_cons_zero, List.set_cons_succ]))
            (refine takeH (i := 15) (v := ?_) rfl (by kernel_rfl) (by kernel_rfl) (by kernel_rfl) (fun _ _ _ h => h) (Or.inl ⟨by rfl, ?_⟩) (by assumption) ?_; rotate_left; (focus ((intro wS hSw); (try dsimp only at hSw); obtain ⟨s0, s1, s2, s3, s4, s5, s6, s7, s8⟩ := hSw; go_simp; (try with_reducible rfl); done)); (try simp only [Act.put, List.setIfInBounds_toArray, List.set_cons_zero, List.set_cons_succ]))
            (refine takeH (i := 16) (v := ?_) rfl (by kernel_rfl) (by kernel_rfl) (by kernel_rfl) (fun _ _ _ h => h) (Or.inl ⟨by rfl, ?_⟩) (by assumption) ?_; rotate_left; (focus ((intro wS hSw); (try dsimp only at hSw); obtain ⟨s0, s1, s2, s3, s4, s5, s6, s7, s8⟩ := hSw; go_simp; (try with_reducible rfl); done)); (try simp only [Act.put, List.setIfInBounds_toArray, List.set_cons_zero, List.set_cons_succ]))
            (refine takeH (i := 17) (v := ?_) rfl (by kernel_rfl) (by kernel_rfl) (by kernel_rfl) (fun _ _ _ h => h) (Or.inl ⟨by rfl, ?_⟩) (by assumption) ?_; rotate_left; (focus ((intro wS hSw); (try dsimp only at hSw); obtain ⟨s0, s1, s2, s3, s4, s5, s6, s7, s8⟩ := hSw; go_simp; (try with_reducible rfl); done)); (try simp only [Act.put, List.setIfInBounds_toArray, List.set_cons_zero, List.set_cons_succ]))
            (refine takeH (i := 18) (v := ?_) rfl (by kernel_rfl) (by kernel_rfl) (by kernel_rfl) (fun _ _ _ h => h) (Or.inl ⟨by rfl, ?_⟩) (by assumption) ?_; rotate_left; (focus ((intro wS hSw); (try dsimp only at hSw); obtain ⟨s0, s1, s2, s3, s4, s5, s6, s7, s8⟩ := hSw; go_simp; (try with_reducible rfl); done)); (try simp only [Act.put, List.setIfInBounds_toArray, List.set_cons_zero, List.set_cons_succ]))
            (refine takeH (i := 19) (v := ?_) rfl (by kernel_rfl) (by kernel_rfl) (by kernel_rfl) (fun _ _ _ h => h) (Or.inl ⟨by rfl, ?_⟩) (by assumption) ?_; rotate_left; (focus ((intro wS hSw); (try dsimp only at hSw); obtain ⟨s0, s1, s2, s3, s4, s5, s6, s7, s8⟩ := hSw; go_simp; (try with_reducible rfl); done)); (try simp only [Act.put, List.setIfInBounds_toArray, List.set_cons_zero, List.set_cons_succ]))
            (refine takeH (i := 21) (v := ?_) rfl (by kernel_rfl) (by kernel_rfl) (by kernel_rfl) (fun _ _ _ h => h) (Or.inl ⟨by rfl, ?_⟩) (by assumption) ?_; rotate_left; (focus ((intro wS hSw); (try dsimp only at hSw); obtain ⟨s0, s1, s2, s3, s4, s5, s6, s7, s8⟩ := hSw; go_simp; (try with_reducible rfl); done)); (try simp only [Act.put, List.setIfInBounds_toArray, List.set_cons_zero, List.set_cons_succ]))
            (refine takeH (i := 22) (v := ?_) rfl (by kernel_rfl) (by kernel_rfl) (by kernel_rfl) (fun _ _ _ h => h) (Or.inl ⟨by rfl, ?_⟩) (by assumption) ?_; rotate_left; (focus ((intro wS hSw); (try dsimp only at hSw); obtain ⟨s0, s1, s2, s3, s4, s5, s6, s7, s8⟩ := hSw; go_simp; (try with_reducible rfl); done)); (try simp only [Act.put, List.setIfInBounds_toArray, List.set_cons_zero, List.set_cons_succ]))
            (refine takeH (i := 23) (v := ?_) rfl (by kernel_rfl) (by kernel_rfl) (by kernel_rfl) (fun _ _ _ h => h) (Or.inl ⟨by rfl, ?_⟩) (by assumption) ?_; rotate_left; (focus ((intro wS hSw); (try dsimp only at hSw); obtain ⟨s0, s1, s2, s3, s4, s5, s6, s7, s8⟩ := hSw; go_simp; (try with_reducible rfl); done)); (try simp only [Act.put, List.setIfInBounds_toArray, List.set_cons_zero, List.set_cons_succ]))
            (refine takeH (i := 24) (v := ?_) rfl (by kernel_rfl) (by kernel_rfl) (by kernel_rfl) (fun _ _ _ h => h) (Or.inl ⟨by rfl, ?_⟩) (by assumption) ?_; rotate_left; (focus ((intro wS hSw); (try dsimp only at hSw); obtain ⟨s0, s1, s2, s3, s4, s5, s6, s7, s8⟩ := hSw; go_simp; (try with_reducible rfl); done)); (try simp only [Act.put, List.setIfInBounds_toArray, List.set_cons_zero, List.set_cons_succ]))
            (refine takeH (i := 25) (v := ?_) rfl (by kernel_rfl) (by kernel_rfl) (by kernel_rfl) (fun _ _ _ h => h) (Or.inl ⟨by rfl, ?_⟩) (by assumption) ?_; rotate_left; (focus ((intro wS hSw); (try dsimp only at hSw); obtain ⟨s0, s1, s2, s3, s4, s5, s6, s7, s8⟩ := hSw; go_simp; (try with_reducible rfl); done)); (try simp only [Act.put, List.setIfInBounds_toArray, List.set_cons_zero, List.set_cons_succ]))
            (refine takeH (i := 26) (v := ?_) rfl (by kernel_rfl) (by kernel_rfl) (by kernel_rfl) (fun _ _ _ h => h) (Or.inl ⟨by rfl, ?_⟩) (by assumption) ?_; rotate_left; (focus ((intro wS hSw); (try dsimp only at hSw); obtain ⟨s0, s1, s2, s3, s4, s5, s6, s7, s8⟩ := hSw; go_simp; (try with_reducible rfl); done)); (try simp only [Act.put, List.setIfInBounds_toArray, List.set_cons_zero, List.set_cons_succ]))
            (refine takeH (i := 27) (v := ?_) rfl (by kernel_rfl) (by kernel_rfl) (by kernel_rfl) (fun _ _ _ h => h) (Or.inl ⟨by rfl, ?_⟩) (by assumption) ?_; rotate_left; (focus ((intro wS hSw); (try dsimp only at hSw); obtain ⟨s0, s1, s2, s3, s4, s5, s6, s7, s8⟩ := hSw; go_simp; (try with_reducible rfl); done)); (try simp only [Act.put, List.setIfInBounds_toArray, List.set_cons_zero, List.set_cons_succ]))
            (refine takeH (i := 28) (v := ?_) rfl (by kernel_rfl) (by kernel_rfl) (by kernel_rfl) (fun _ _ _ h => h) (Or.inl ⟨by rfl, ?_⟩) (by assumption) ?_; rotate_left; (focus ((intro wS hSw); (try dsimp only at hSw); obtain ⟨s0, s1, s2, s3, s4, s5, s6, s7, s8⟩ := hSw; go_simp; (try with_reducible rfl); done)); (try simp only [Act.put, List.setIfInBounds_toArray, List.set_cons_zero, List.set_cons_succ]))
            refine aloneH (i := 20) rfl (by kernel_rfl) (fun K hK => ?_)
            rw [if_pos (by rfl)]
            go_simp; ((refine (HBz.out _ (below_then HB1.out HB2.out)).mono ?_); (rintro e w3 ⟨rfl, hb⟩); have HB3 := Lib.hid hb; clear hb; (try go_simp))
            refine hK.out _ _ (⟨cell_on HB3.out hHeld.1, cell_on HB3.out hHeld.2.1, cell_on HB3.out hHeld.2.2.1, cell_on HB3.out hHeld.2.2.2.1, cell_on HB3.out hHeld.2.2.2.2.1, cell_on HB3.out hHeld.2.2.2.2.2.1, cell_on HB3.out hHeld.2.2.2.2.2.2.1, cell_on HB3.out hHeld.2.2.2.2.2.2.2.1, cell_on HB3.out hHeld.2.2.2.2.2.2.2.2⟩) (fun hNew => ?_)
            clear hK K hHeld; (have hHeld := hNew); clear hNew; (try simp only [Act.put, List.setIfInBounds_toArray, List.set_cons_zero, List.set_cons_succ])
            refine aloneH (i := 29) rfl (by kernel_rfl) (fun K hK => ?_)
            rw [if_pos (by rfl)]
            go_simp; ((refine (HBe.out _ (below_then (below_then HB1.out HB2.out) HB3.out)).mono ?_); (rintro e w4 ⟨rfl, hb⟩); have HB4 := Lib.hid hb; clear hb; (try go_simp))
            refine hK.out _ _ (⟨cell_on HB4.out hHeld.1, cell_on HB4.out hHeld.2.1, cell_on HB4.out hHeld.2.2.1, cell_on HB4.out hHeld.2.2.2.1, cell_on HB4.out hHeld.2.2.2.2.1, cell_on HB4.out hHeld.2.2.2.2.2.1, cell_on HB4.out hHeld.2.2.2.2.2.2.1, cell_on HB4.out hHeld.2.2.2.2.2.2.2.1, cell_on HB4.out hHeld.2.2.2.2.2.2.2.2⟩) (fun hNew => ?_)
            clear hK K hHeld; (have hHeld := hNew); clear hNew; (try simp only [Act.put, List.setIfInBounds_toArray, List.set_cons_zero, List.set_cons_succ])
            (refine takeH (i := 30) (v := (.bool false)) rfl (by kernel_rfl) (by kernel_rfl) (by kernel_rfl) (fun _ _ _ h => h) (Or.inl ⟨by rfl, by (intro wS hSw); (try dsimp only at hSw); (obtain ⟨s0, s1, s2, s3, s4, s5, s6, s7, s8⟩ := hSw); go_simp; (first | done | simp)⟩) (by assumption) ?_; (try simp only [Act.put, List.setIfInBounds_toArray, List.set_cons_zero, List.set_cons_succ]))
            (refine takeH (i := 31) (v := ?_) rfl (by kernel_rfl) (by kernel_rfl) (by kernel_rfl) (fun _ _ _ h => h) (Or.inl ⟨by rfl, ?_⟩) (by assumption) ?_; rotate_left; (focus ((intro wS hSw); (try dsimp only at hSw); obtain ⟨s0, s1, s2, s3, s4, s5, s6, s7, s8⟩ := hSw; go_simp; (try with_reducible rfl); done)); (try simp only [Act.put, List.setIfInBounds_toArray, List.set_cons_zero, List.set_cons_succ]))
            refine wpAnyH_done (by kernel_rfl) ?_ _
            clear hHeld
            have HBi := Lib.hid (below_then HWd.out (below_then (below_then (below_then HB1.out HB2.out) HB3.out) HB4.out))
            go_wp2
            go_roundw
            case rel => exact ⟨j + 1, by omega, by go_num, Lib.hid (below_then HWi.out HBi.out)⟩
            case measure => simp [intOf]; omega
          · obtain rfl : j = 2 := by omega
            go_wp2
            have HWe := Lib.hid (below_then HWi.out (below_drew wi))
            have HHd := Lib.hid (H9.out.on HWe.out)
            obtain ⟨p0, p1, p2⟩ := row3a HHd.out.2.2.1
            refine wp_region_held_drew (S := fun V => V.cell? ⟨b8, 0, none⟩ = some (.string home) ∧ V.cell? ⟨b8, 1, none⟩ = some (.slice AO4 OD4.length cO4) ∧ V.cell? ⟨b8, 2, none⟩ = some (.slice AM4 M4.length cM4)) (by kernel_rfl) ⟨p0, p1, p2⟩ ?_
            intro hHeld
            clear p0 p1 p2
            generalize World.drew _ = wd at HWe HHd hHeld ⊢
            have HHm : Hid (∀ V, Below wd.heap.size wd V → Calls Tryz.prog 19 #[.pointer (some ⟨P2, 0, none⟩)] V fun e w' => e = .returned (.string home) ∧ V = w') := Lib.hid (fun V hV => code_home (HHd.out.on hV).1)
            have HKn : Hid (∀ V, Below wd.heap.size wd V → Calls Tryz.prog 9 #[.pointer (some ⟨P2, 0, none⟩)] V fun e w' => ∃ v T, e = .returned v ∧ AllK F4 T ∧ OwnS w' V.heap.size v (srtL T) ∧ Below V.heap.size V w') := Lib.hid (fun V hV => code_known (HHd.out.on hV).1 (fun T hT => by have := HRl.out.names hT; have := HLen.out; omega))
            have HKd : Hid (∀ V, Below wd.heap.size wd V → Calls Tryz.prog 20 #[.agg #[.string home, .slice AO4 OD4.length cO4, .slice AM4 M4.length cM4]] V fun e w' => ∃ v D, e = .returned v ∧ AllD M4 D ∧ OwnS w' V.heap.size v D ∧ Below V.heap.size V w') := Lib.hid (fun V hV => ref_known home AO4 OD4.length cO4 AM4 cM4 M4 V (HHd.out.on hV).2.2.2.2.1.1 (by have := HLen.out; omega) (fun r hr => (HRl.out.ok r hr).2))
            clear HHd
            (refine takeH (i := 0) (v := ?_) rfl (by kernel_rfl) (by kernel_rfl) (by kernel_rfl) (fun _ _ _ h => h) (Or.inl ⟨by rfl, ?_⟩) (by assumption) ?_; rotate_left; (focus ((intro wS hSw); (try dsimp only at hSw); obtain ⟨s0, s1, s2⟩ := hSw; go_simp; (try with_reducible rfl); done)); (try simp only [Act.put, List.setIfInBounds_toArray, List.set_cons_zero, List.set_cons_succ]))
            (refine takeH (i := 2) (v := ?_) rfl (by kernel_rfl) (by kernel_rfl) (by kernel_rfl) (fun _ _ _ h => h) (Or.inl ⟨by rfl, ?_⟩) (by assumption) ?_; rotate_left; (focus ((intro wS hSw); (try dsimp only at hSw); obtain ⟨s0, s1, s2⟩ := hSw; go_simp; (try with_reducible rfl); done)); (try simp only [Act.put, List.setIfInBounds_toArray, List.set_cons_zero, List.set_cons_succ]))
            refine aloneH (i := 1) rfl (by kernel_rfl) (fun K hK => ?_)
            rw [if_pos (by rfl)]
            go_simp; ((refine (HHm.out _ (below_same wd)).mono ?_); (rintro e wz ⟨rfl, rfl⟩); have HB1 : Hid (Below wd.heap.size wd wd) := Lib.hid (Below.refl _ _); (try go_simp))
            refine hK.out _ _ (hHeld) (fun hNew => ?_)
            clear hK K hHeld; (have hHeld := hNew); clear hNew; (try simp only [Act.put, List.setIfInBounds_toArray, List.set_cons_zero, List.set_cons_succ])
            (refine takeH (i := 3) (v := (.bool false)) rfl (by kernel_rfl) (by kernel_rfl) (by kernel_rfl) (fun _ _ _ h => h) (Or.inl ⟨by rfl, by (intro wS hSw); (try dsimp only at hSw); (obtain ⟨s0, s1, s2⟩ := hSw); go_simp; (first | done | simp)⟩) (by assumption) ?_; (try simp only [Act.put, List.setIfInBounds_toArray, List.set_cons_zero, List.set_cons_succ]))
            (refine takeH (i := 4) (v := ?_) rfl (by kernel_rfl) (by kernel_rfl) (by kernel_rfl) (fun _ _ _ h => h) (Or.inl ⟨by rfl, ?_⟩) (by assumption) ?_; rotate_left; (focus ((intro wS hSw); (try dsimp only at hSw); obtain ⟨s0, s1, s2⟩ := hSw; go_simp; (try with_reducible rfl); done)); (try simp only [Act.put, List.setIfInBounds_toArray, List.set_cons_zero, List.set_cons_succ]))
            (refine takeH (i := 5) (v := ?_) rfl (by kernel_rfl) (by kernel_rfl) (by kernel_rfl) (fun _ _ _ h => h) (Or.inl ⟨by rfl, ?_⟩) (by assumption) ?_; rotate_left; (focus ((intro wS hSw); (try dsimp only at hSw); obtain ⟨s0, s1, s2⟩ := hSw; go_simp; (try with_reducible rfl); done)); (try simp only [Act.put, List.setIfInBounds_toArray, List.set_cons_zero, List.set_cons_succ]))
            (refine takeH (i := 7) (v := ?_) rfl (by kernel_rfl) (by kernel_rfl) (by kernel_rfl) (fun _ _ _ h => h) (Or.inl ⟨by rfl, ?_⟩) (by assumption) ?_; rotate_left; (focus ((intro wS hSw); (try dsimp only at hSw); obtain ⟨s0, s1, s2⟩ := hSw; go_simp; (try with_reducible rfl); done)); (try simp only [Act.put, List.setIfInBounds_toArray, List.set_cons_zero, List.set_cons_succ]))
            refine aloneH (i := 6) rfl (by kernel_rfl) (fun K hK => ?_)
            rw [if_pos (by rfl)]
            go_simp; ((refine (HKn.out wd HB1.out).mono ?_); (rintro e w2 ⟨v3, T3, rfl, ht, ho, hb⟩); obtain ⟨A3, c3, hv3⟩ := ho.form; subst hv3; have HT3 := Lib.hid ht; have HO3 := Lib.hid ho; have HB2 := Lib.hid hb; clear hb ho ht; (try go_simp))
            refine hK.out _ _ (⟨cell_on HB2.out hHeld.1, cell_on HB2.out hHeld.2.1, cell_on HB2.out hHeld.2.2⟩) (fun hNew => ?_)
            clear hK K hHeld; (have hHeld := hNew); clear hNew; (try simp only [Act.put, List.setIfInBounds_toArray, List.set_cons_zero, List.set_cons_succ])
            refine aloneH (i := 8) rfl (by kernel_rfl) (fun K hK => ?_)
            rw [if_pos (by rfl)]
            go_simp; ((refine (HKd.out w2 (below_then HB1.out HB2.out)).mono ?_); (rintro e w3 ⟨v4, D4, rfl, ht, ho, hb⟩); obtain ⟨A4, c4, hv4⟩ := ho.form; subst hv4; have HT4 := Lib.hid ht; have HO4 := Lib.hid ho; have HB3 := Lib.hid hb; clear hb ho ht; (try go_simp))
            refine hK.out _ _ (⟨cell_on HB3.out hHeld.1, cell_on HB3.out hHeld.2.1, cell_on HB3.out hHeld.2.2⟩) (fun hNew => ?_)
            clear hK K hHeld; (have hHeld := hNew); clear hNew; (try simp only [Act.put, List.setIfInBounds_toArray, List.set_cons_zero, List.set_cons_succ])
            refine aloneH (i := 9) rfl (by kernel_rfl) (fun K hK => ?_)
            rw [if_pos (by rfl)]
            have hS3 := strs_own (HO3.out.on HB3.out) (fun s hs => (HT3.out.1.2 s (srtL_mem hs)).1) (by rw [srtL_len]; have := HRl.out.names HT3.out.1; have := HLen.out.2; omega)
            have hS4 := strs_own HO4.out (fun s hs => by
              obtain ⟨r, hr, e⟩ := List.mem_map.1 ((HT4.out.2 s).1 hs)
              rw [← e]; exact (HRl.out.ok r hr).1) (by rw [← HRl.out.known HT3.out HT4.out, srtL_len]; have := HRl.out.names HT3.out.1; have := HLen.out.2; omega)
            have hSm := ref_same (srtL T3) D4 A3 A4 c3 c4 w3 (by rw [srtL_len]; have := HRl.out.names HT3.out.1; have := HLen.out.2; omega) hS3 hS4
            rw [decide_eq_true (HRl.out.known HT3.out HT4.out)] at hSm
            have HSm := Lib.hid hSm
            clear hSm hS3 hS4
            go_simp; ((refine HSm.out.mono ?_); (rintro e w4 ⟨rfl, hb⟩); have HB4 := Lib.hid hb; clear hb; (try go_simp))
            refine hK.out _ _ (⟨cell_on HB4.out hHeld.1, cell_on HB4.out hHeld.2.1, cell_on HB4.out hHeld.2.2⟩) (fun hNew => ?_)
            clear hK K hHeld; (have hHeld := hNew); clear hNew; (try simp only [Act.put, List.setIfInBounds_toArray, List.set_cons_zero, List.set_cons_succ])
            (refine takeH (i := 10) (v := ?_) rfl (by kernel_rfl) (by kernel_rfl) (by kernel_rfl) (fun _ _ _ h => h) (Or.inl ⟨by rfl, ?_⟩) (by assumption) ?_; rotate_left; (focus ((intro wS hSw); (try dsimp only at hSw); obtain ⟨s0, s1, s2⟩ := hSw; go_simp; (try with_reducible rfl); done)); (try simp only [Act.put, List.setIfInBounds_toArray, List.set_cons_zero, List.set_cons_succ]))
            (refine takeH (i := 11) (v := ?_) rfl (by kernel_rfl) (by kernel_rfl) (by kernel_rfl) (fun _ _ _ h => h) (Or.inl ⟨by rfl, ?_⟩) (by assumption) ?_; rotate_left; (focus ((intro wS hSw); (try dsimp only at hSw); obtain ⟨s0, s1, s2⟩ := hSw; go_simp; (try with_reducible rfl); done)); (try simp only [Act.put, List.setIfInBounds_toArray, List.set_cons_zero, List.set_cons_succ]))
            refine wpAnyH_done (by kernel_rfl) ?_ _
            clear hHeld
            have HBj := Lib.hid (below_then HWe.out (below_then (below_then (below_then HB1.out HB2.out) HB3.out) HB4.out))
            go_wp2
            go_roundw
            case rel => exact ⟨k + 1, P2, B2, bm2, n4, base2, O4, F4, AO4, cO4, OD4, AM4, cM4, M4, by omega, by go_num, rfl, Lib.hid (H9.out.on HBj.out)⟩
            case measure => simp [intOf]; omega
    · obtain rfl : k = L.length := by omega
      obtain ⟨a0, a1, a2, a3, a4, a5⟩ := cellsOpP HS.out.2.2.2.2.2.2.2.1.1
      go_wp2
      have HHd := Lib.hid (HS.out.on (below_drew wr))
      have HWf := Lib.hid (HHd.out.2.2.2.2.2.2.2.1.2)
      clear a0 a1 a2 a3 a4 a5
      obtain ⟨a0, a1, a2, a3, a4, a5⟩ := cellsOpP HHd.out.2.2.2.2.2.2.2.1.1
      obtain ⟨p0, p1, p2⟩ := row3a HHd.out.2.2.1
      refine wp_region_held_drew (S := fun V => V.cell? ⟨w.heap.size, 0, none⟩ = some (.int .i64 x.1) ∧ V.cell? ⟨w.heap.size, 1, none⟩ = some (.string x.2.1) ∧ V.cell? ⟨w.heap.size, 2, none⟩ = some (.string x.2.2.1) ∧ V.cell? ⟨w.heap.size, 3, none⟩ = some (.int .i64 x.2.2.2.1) ∧ V.cell? ⟨w.heap.size, 4, none⟩ = some (.int .i64 x.2.2.2.2.1) ∧ V.cell? ⟨w.heap.size, 5, none⟩ = some (.int .i64 x.2.2.2.2.2) ∧ V.cell? ⟨b8, 0, none⟩ = some (.string home) ∧ V.cell? ⟨b8, 1, none⟩ = some (.slice AO OD.length cO) ∧ V.cell? ⟨b8, 2, none⟩ = some (.slice AM M.length cM)) (by kernel_rfl) ⟨a0, a1, a2, a3, a4, a5, p0, p1, p2⟩ ?_
      intro hHeld
      clear a0 a1 a2 a3 a4 a5 p0 p1 p2
      generalize wr.drew = wd at HHd HWf hHeld ⊢
      have hq2 := HS.out.2.2.2.2.2.1.biz (home := home) (c := x.2.1) (m := x.2.2.1) (by unfold okKey; rw [ByteArray.size_append]; have := HR.out.2.2; omega) x.2.2.2.1
      have HBz : Hid (∀ V, Below wd.heap.size wd V → Calls Tryz.prog 17 #[.pointer (some ⟨P, 0, none⟩), .string x.2.1, .string x.2.2.1, .int .i64 x.2.2.2.1] V fun e w' => e = .returned (.bool (bizB home F x.2.1 x.2.2.1 x.2.2.2.1)) ∧ Below V.heap.size V w') := Lib.hid (fun V hV => code_business (HHd.out.on hV).1 (HM.out.below (below_then HWf.out hV)) _ _ _ (by have := HR.out.2.2; omega) (by have := HR.out.2.2; omega))
      have HBe : Hid (∀ V, Below wd.heap.size wd V → Calls Tryz.prog 18 #[.agg #[.string home, .slice AO OD.length cO, .slice AM M.length cM], .string x.2.1, .string x.2.2.1, .int .i64 x.2.2.2.1] V fun e w' => e = .returned (.bool (bizD home M x.2.1 x.2.2.1 x.2.2.2.1)) ∧ Below V.heap.size V w') := Lib.hid (fun V hV => ref_business home AO OD.length cO AM cM M _ _ _ V (HHd.out.on hV).2.2.2.2.1.1 (by have := HS.out.2.2.2.2.2.2.1.2; omega) (by have := HR.out.2.2; omega) (by have := HR.out.2.2; omega))
      rw [← hq2] at HBe
      generalize bizB home F x.2.1 x.2.2.1 x.2.2.2.1 = q2 at HBz HBe
      clear hq2 HHd HS
      (refine takeH (i := 0) (v := ?_) rfl (by kernel_rfl) (by kernel_rfl) (by kernel_rfl) (fun _ _ _ h => h) (Or.inl ⟨by rfl, ?_⟩) (by assumption) ?_; rotate_left; (focus ((intro wS hSw); (try dsimp only at hSw); obtain ⟨s0, s1, s2, s3, s4, s5, s6, s7, s8⟩ := hSw; go_simp; (try with_reducible rfl); done)); (try simp only [Act.put, List.setIfInBounds_toArray, List.set_cons_zero, List.set_cons_succ]))
      (refine takeH (i := 1) (v := ?_) rfl (by kernel_rfl) (by kernel_rfl) (by kernel_rfl) (fun _ _ _ h => h) (Or.inl ⟨by rfl, ?_⟩) (by assumption) ?_; rotate_left; (focus ((intro wS hSw); (try dsimp only at hSw); obtain ⟨s0, s1, s2, s3, s4, s5, s6, s7, s8⟩ := hSw; go_simp; (try with_reducible rfl); done)); (try simp only [Act.put, List.setIfInBounds_toArray, List.set_cons_zero, List.set_cons_succ]))
      (refine takeH (i := 2) (v := ?_) rfl (by kernel_rfl) (by kernel_rfl) (by kernel_rfl) (fun _ _ _ h => h) (Or.inl ⟨by rfl, ?_⟩) (by assumption) ?_; rotate_left; (focus ((intro wS hSw); (try dsimp only at hSw); obtain ⟨s0, s1, s2, s3, s4, s5, s6, s7, s8⟩ := hSw; go_simp; (try with_reducible rfl); done)); (try simp only [Act.put, List.setIfInBounds_toArray, List.set_cons_zero, List.set_cons_succ]))
      (refine takeH (i := 3) (v := ?_) rfl (by kernel_rfl) (by kernel_rfl) (by kernel_rfl) (fun _ _ _ h => h) (Or.inl ⟨by rfl, ?_⟩) (by assumption) ?_; rotate_left; (focus ((intro wS hSw); (try dsimp only at hSw); obtain ⟨s0, s1, s2, s3, s4, s5, s6, s7, s8⟩ := hSw; go_simp; (try with_reducible rfl); done)); (try simp only [Act.put, List.setIfInBounds_toArray, List.set_cons_zero, List.set_cons_succ]))
      (refine takeH (i := 4) (v := ?_) rfl (by kernel_rfl) (by kernel_rfl) (by kernel_rfl) (fun _ _ _ h => h) (Or.inl ⟨by rfl, ?_⟩) (by assumption) ?_; rotate_left; (focus ((intro wS hSw); (try dsimp only at hSw); obtain ⟨s0, s1, s2, s3, s4, s5, s6, s7, s8⟩ := hSw; go_simp; (try with_reducible rfl); done)); (try simp only [Act.put, List.setIfInBounds_toArray, List.set_cons_zero, List.set_cons_succ]))
      (refine takeH (i := 5) (v := ?_) rfl (by kernel_rfl) (by kernel_rfl) (by kernel_rfl) (fun _ _ _ h => h) (Or.inl ⟨by rfl, ?_⟩) (by assumption) ?_; rotate_left; (focus ((intro wS hSw); (try dsimp only at hSw); obtain ⟨s0, s1, s2, s3, s4, s5, s6, s7, s8⟩ := hSw; go_simp; (try with_reducible rfl); done)); (try simp only [Act.put, List.setIfInBounds_toArray, List.set_cons_zero, List.set_cons_succ]))
      (refine takeH (i := 6) (v := ?_) rfl (by kernel_rfl) (by kernel_rfl) (by kernel_rfl) (fun _ _ _ h => h) (Or.inl ⟨by rfl, ?_⟩) (by assumption) ?_; rotate_left; (focus ((intro wS hSw); (try dsimp only at hSw); obtain ⟨s0, s1, s2, s3, s4, s5, s6, s7, s8⟩ := hSw; go_simp; (try with_reducible rfl); done)); (try simp only [Act.put, List.setIfInBounds_toArray, List.set_cons_zero, List.set_cons_succ]))
      (refine takeH (i := 7) (v := ?_) rfl (by kernel_rfl) (by kernel_rfl) (by kernel_rfl) (fun _ _ _ h => h) (Or.inl ⟨by rfl, ?_⟩) (by assumption) ?_; rotate_left; (focus ((intro wS hSw); (try dsimp only at hSw); obtain ⟨s0, s1, s2, s3, s4, s5, s6, s7, s8⟩ := hSw; go_simp; (try with_reducible rfl); done)); (try simp only [Act.put, List.setIfInBounds_toArray, List.set_cons_zero, List.set_cons_succ]))
      (refine takeH (i := 9) (v := ?_) rfl (by kernel_rfl) (by kernel_rfl) (by kernel_rfl) (fun _ _ _ h => h) (Or.inl ⟨by rfl, ?_⟩) (by assumption) ?_; rotate_left; (focus ((intro wS hSw); (try dsimp only at hSw); obtain ⟨s0, s1, s2, s3, s4, s5, s6, s7, s8⟩ := hSw; go_simp; (try with_reducible rfl); done)); (try simp only [Act.put, List.setIfInBounds_toArray, List.set_cons_zero, List.set_cons_succ]))
      (refine takeH (i := 10) (v := ?_) rfl (by kernel_rfl) (by kernel_rfl) (by kernel_rfl) (fun _ _ _ h => h) (Or.inl ⟨by rfl, ?_⟩) (by assumption) ?_; rotate_left; (focus ((intro wS hSw); (try dsimp only at hSw); obtain ⟨s0, s1, s2, s3, s4, s5, s6, s7, s8⟩ := hSw; go_simp; (try with_reducible rfl); done)); (try simp only [Act.put, List.setIfInBounds_toArray, List.set_cons_zero, List.set_cons_succ]))
      (refine takeH (i := 11) (v := ?_) rfl (by kernel_rfl) (by kernel_rfl) (by kernel_rfl) (fun _ _ _ h => h) (Or.inl ⟨by rfl, ?_⟩) (by assumption) ?_; rotate_left; (focus ((intro wS hSw); (try dsimp only at hSw); obtain ⟨s0, s1, s2, s3, s4, s5, s6, s7, s8⟩ := hSw; go_simp; (try with_reducible rfl); done)); (try simp only [Act.put, List.setIfInBounds_toArray, List.set_cons_zero, List.set_cons_succ]))
      (refine takeH (i := 12) (v := ?_) rfl (by kernel_rfl) (by kernel_rfl) (by kernel_rfl) (fun _ _ _ h => h) (Or.inl ⟨by rfl, ?_⟩) (by assumption) ?_; rotate_left; (focus ((intro wS hSw); (try dsimp only at hSw); obtain ⟨s0, s1, s2, s3, s4, s5, s6, s7, s8⟩ := hSw; go_simp; (try with_reducible rfl); done)); (try simp only [Act.put, List.setIfInBounds_toArray, List.set_cons_zero, List.set_cons_succ]))
      (refine takeH (i := 13) (v := ?_) rfl (by kernel_rfl) (by kernel_rfl) (by kernel_rfl) (fun _ _ _ h => h) (Or.inl ⟨by rfl, ?_⟩) (by assumption) ?_; rotate_left; (focus ((intro wS hSw); (try dsimp only at hSw); obtain ⟨s0, s1, s2, s3, s4, s5, s6, s7, s8⟩ := hSw; go_simp; (try with_reducible rfl); done)); (try simp only [Act.put, List.setIfInBounds_toArray, List.set_cons_zero, List.set_cons_succ]))
      (refine takeH (i := 14) (v := ?_) rfl (by kernel_rfl) (by kernel_rfl) (by kernel_rfl) (fun _ _ _ h => h) (Or.inl ⟨by rfl, ?_⟩) (by assumption) ?_; rotate_left; (focus ((intro wS hSw); (try dsimp only at hSw); obtain ⟨s0, s1, s2, s3, s4, s5, s6, s7, s8⟩ := hSw; go_simp; (try with_reducible rfl); done)); (try simp only [Act.put, List.setIfInBounds_toArray, List.set_cons_zero, List.set_cons_succ]))
      (refine takeH (i := 15) (v := ?_) rfl (by kernel_rfl) (by kernel_rfl) (by kernel_rfl) (fun _ _ _ h => h) (Or.inl ⟨by rfl, ?_⟩) (by assumption) ?_; rotate_left; (focus ((intro wS hSw); (try dsimp only at hSw); obtain ⟨s0, s1, s2, s3, s4, s5, s6, s7, s8⟩ := hSw; go_simp; (try with_reducible rfl); done)); (try simp only [Act.put, List.setIfInBounds_toArray, List.set_cons_zero, List.set_cons_succ]))
      (refine takeH (i := 16) (v := ?_) rfl (by kernel_rfl) (by kernel_rfl) (by kernel_rfl) (fun _ _ _ h => h) (Or.inl ⟨by rfl, ?_⟩) (by assumption) ?_; rotate_left; (focus ((intro wS hSw); (try dsimp only at hSw); obtain ⟨s0, s1, s2, s3, s4, s5, s6, s7, s8⟩ := hSw; go_simp; (try with_reducible rfl); done)); (try simp only [Act.put, List.setIfInBounds_toArray, List.set_cons_zero, List.set_cons_succ]))
      refine aloneH (i := 8) rfl (by kernel_rfl) (fun K hK => ?_)
      rw [if_pos (by rfl)]
      go_simp; ((refine (HBz.out _ (below_same wd)).mono ?_); (rintro e w1 ⟨rfl, hb⟩); have HB1 := Lib.hid hb; clear hb; (try go_simp))
      refine hK.out _ _ (⟨cell_on HB1.out hHeld.1, cell_on HB1.out hHeld.2.1, cell_on HB1.out hHeld.2.2.1, cell_on HB1.out hHeld.2.2.2.1, cell_on HB1.out hHeld.2.2.2.2.1, cell_on HB1.out hHeld.2.2.2.2.2.1, cell_on HB1.out hHeld.2.2.2.2.2.2.1, cell_on HB1.out hHeld.2.2.2.2.2.2.2.1, cell_on HB1.out hHeld.2.2.2.2.2.2.2.2⟩) (fun hNew => ?_)
      clear hK K hHeld; (have hHeld := hNew); clear hNew; (try simp only [Act.put, List.setIfInBounds_toArray, List.set_cons_zero, List.set_cons_succ])
      refine aloneH (i := 17) rfl (by kernel_rfl) (fun K hK => ?_)
      rw [if_pos (by rfl)]
      go_simp; ((refine (HBe.out _ HB1.out).mono ?_); (rintro e w2 ⟨rfl, hb⟩); have HB2 := Lib.hid hb; clear hb; (try go_simp))
      refine hK.out _ _ (⟨cell_on HB2.out hHeld.1, cell_on HB2.out hHeld.2.1, cell_on HB2.out hHeld.2.2.1, cell_on HB2.out hHeld.2.2.2.1, cell_on HB2.out hHeld.2.2.2.2.1, cell_on HB2.out hHeld.2.2.2.2.2.1, cell_on HB2.out hHeld.2.2.2.2.2.2.1, cell_on HB2.out hHeld.2.2.2.2.2.2.2.1, cell_on HB2.out hHeld.2.2.2.2.2.2.2.2⟩) (fun hNew => ?_)
      clear hK K hHeld; (have hHeld := hNew); clear hNew; (try simp only [Act.put, List.setIfInBounds_toArray, List.set_cons_zero, List.set_cons_succ])
      (refine takeH (i := 18) (v := (.bool true)) rfl (by kernel_rfl) (by kernel_rfl) (by kernel_rfl) (fun _ _ _ h => h) (Or.inl ⟨by rfl, by (intro wS hSw); (try dsimp only at hSw); (obtain ⟨s0, s1, s2, s3, s4, s5, s6, s7, s8⟩ := hSw); go_simp; (first | done | simp)⟩) (by assumption) ?_; (try simp only [Act.put, List.setIfInBounds_toArray, List.set_cons_zero, List.set_cons_succ]))
      (refine takeH (i := 19) (v := ?_) rfl (by kernel_rfl) (by kernel_rfl) (by kernel_rfl) (fun _ _ _ h => h) (Or.inl ⟨by rfl, ?_⟩) (by assumption) ?_; rotate_left; (focus ((intro wS hSw); (try dsimp only at hSw); obtain ⟨s0, s1, s2, s3, s4, s5, s6, s7, s8⟩ := hSw; go_simp; (try with_reducible rfl); done)); (try simp only [Act.put, List.setIfInBounds_toArray, List.set_cons_zero, List.set_cons_succ]))
      refine aloneH (i := 20) rfl (by kernel_rfl) (fun K hK => ?_)
      rw [if_pos (by rfl)]
      go_simp; ((refine (pp_lives w2 (HM.out.below (below_then HWf.out (below_then HB1.out HB2.out)))).mono ?_); (rintro e w3 ⟨rfl, hb⟩); have HB3 := Lib.hid hb; clear hb; (try go_simp))
      refine hK.out _ _ (⟨cell_on HB3.out hHeld.1, cell_on HB3.out hHeld.2.1, cell_on HB3.out hHeld.2.2.1, cell_on HB3.out hHeld.2.2.2.1, cell_on HB3.out hHeld.2.2.2.2.1, cell_on HB3.out hHeld.2.2.2.2.2.1, cell_on HB3.out hHeld.2.2.2.2.2.2.1, cell_on HB3.out hHeld.2.2.2.2.2.2.2.1, cell_on HB3.out hHeld.2.2.2.2.2.2.2.2⟩) (fun hNew => ?_)
      clear hK K hHeld; (have hHeld := hNew); clear hNew; (try simp only [Act.put, List.setIfInBounds_toArray, List.set_cons_zero, List.set_cons_succ])
      (refine takeH (i := 21) (v := ?_) rfl (by kernel_rfl) (by kernel_rfl) (by kernel_rfl) (fun _ _ _ h => h) (Or.inl ⟨by rfl, ?_⟩) (by assumption) ?_; rotate_left; (focus ((intro wS hSw); (try dsimp only at hSw); obtain ⟨s0, s1, s2, s3, s4, s5, s6, s7, s8⟩ := hSw; go_simp; (try with_reducible rfl); done)); (try simp only [Act.put, List.setIfInBounds_toArray, List.set_cons_zero, List.set_cons_succ]))
      (refine takeH (i := 22) (v := ?_) rfl (by kernel_rfl) (by kernel_rfl) (by kernel_rfl) (fun _ _ _ h => h) (Or.inl ⟨by rfl, ?_⟩) (by assumption) ?_; rotate_left; (focus ((intro wS hSw); (try dsimp only at hSw); obtain ⟨s0, s1, s2, s3, s4, s5, s6, s7, s8⟩ := hSw; go_simp; (try with_reducible rfl); done)); (try simp only [Act.put, List.setIfInBounds_toArray, List.set_cons_zero, List.set_cons_succ]))
      refine wpAnyH_done (by kernel_rfl) ?_ _
      clear hHeld
      have HBf := Lib.hid (below_then HWf.out (below_then (below_then HB1.out HB2.out) HB3.out))
      go_wp2
      go_ret
      exact ⟨rfl, HBf.out⟩
theorem peopleSets_any (home : ByteArray) (A : Option Addr) (c : Nat) (L : List OpP) (x : OpP) (w : World) (hh : home.size ≤ 9223372036854775807) (hr : RowOpP w A L) (hA : A = none → L = [] ∧ c = 0) (hlc : L.length ≤ c) (hln : L.length * 64 ≤ 140737488351232) (hM : MaxL w) :
    Calls Tryz.prog 3 #[.string home, .slice A L.length c, .agg #[.int .i64 x.1, .string x.2.1, .string x.2.2.1, .int .i64 x.2.2.2.1, .int .i64 x.2.2.2.2.1, .int .i64 x.2.2.2.2.2]] w fun e w' => e = .returned (.bool true) ∧ Below w.heap.size w w' := by
  have hA1 : A = none → L = [] := fun h => (hA h).1
  cases h1 : lightB L x with
  | false => exact sets_out home A c L x w hr hA1 hlc hln hh hM (.inl h1)
  | true =>
    by_cases h2 : home.size ≤ 100
    · cases h3 : isMem home with
      | false => exact sets_none home A c L x w hr hA1 hlc hln hM h1 h2 h3
      | true => exact sets_in home A c L x w hr hA1 hlc hln hM h1 h2 h3
    · exact sets_out home A c L x w hr hA1 hlc hln hh hM (.inr ⟨h1, by omega⟩)
end Go.Proofs.YtgljajoknmgoeaaGreat
