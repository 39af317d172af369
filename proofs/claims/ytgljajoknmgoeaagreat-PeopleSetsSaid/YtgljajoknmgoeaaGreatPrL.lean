/- The document's people: a number's line; what holds; who is a taxable person. -/
import Derived.Test.YtgljajoknmgoeaaGreatPrD
import Derived.Test.YtgljajoknmgoeaaGreatVatRightR
namespace Go.Proofs.YtgljajoknmgoeaaGreat
open Go.RowKit
set_option maxRecDepth 100000
attribute [local go_sem] Oper.semAt_some

theorem wpList_append_q {w : World} {ops : Array Oper} {rest : List Oper} {o : Oper} {a : Act} {Q : Exit → Act → World → Prop} (hgd : o.guard = none) (s x : Operand)
    (ho : o.op = .call { callee := .builtin .append, args := #[s, x], argTypes := #[32, 32] }) (hty : o.type = 32) (base : Nat) (v : Value) (L : List Sp) (hs : a.eval s = v) (hown : OwnQ w base v L)
    (A : Option Addr) (n c : Nat) (M : List Sp) (hx : a.eval x = .slice A n c) (hn : M.length = n) (hr : Row w A M) (hA : A = none → M = []) (hl : L.length + M.length ≤ 1000) (hb : base ≤ w.heap.size)
    (h : ∀ v' w', OwnQ w' base v' (L ++ M) → w.grownBy w' v.ownBlock → wpList Tryz.prog ops Q rest (a.put o.dst v') w') : wpList Tryz.prog ops Q (o :: rest) a w :=
  wpList_plain hgd fun _ hK => wp_append_q w s x ho hty base v L hs hown A n c M hx hn hr hA hl hb fun v' w' h1 h2 => hK _ _ (h v' w' h1 h2)


def lineD (M : List St) (s : ByteArray) : List Sp := (M.filter (fun r => decide (r.1 = s))).map (·.2)
theorem lineD_yes {M : List St} {k : Nat} {s : ByteArray} (hk : k < M.length) (h1 : M[k].1 = s) : lineD (M.take (k + 1)) s = lineD (M.take k) s ++ [M[k].2] := by
  unfold lineD
  rw [List.take_succ_eq_append_getElem hk, List.filter_append, List.map_append]
  simp [h1]
theorem lineD_no {M : List St} {k : Nat} {s : ByteArray} (hk : k < M.length) (h : ¬ M[k].1 = s) : lineD (M.take (k + 1)) s = lineD (M.take k) s := by
  unfold lineD
  rw [List.take_succ_eq_append_getElem hk, List.filter_append]
  simp [h]
theorem lineD_len (M : List St) (s : ByteArray) : (lineD M s).length ≤ M.length := by
  unfold lineD
  rw [List.length_map]
  exact List.length_filter_le _ _
theorem OwnQ.setBox {w : World} {B b o : Nat} {v u : Value} {L : List Sp} (h : OwnQ w B v L) (hb : b < B) : OwnQ (w.setCell ⟨b, o, none⟩ u) B v L := by
  refine ⟨h.1, ?_⟩
  rcases h.2 with h | ⟨g, c, cur, e, hB, hh, hr⟩
  · exact .inl h
  · exact .inr ⟨g, c, cur, e, hB, (heap_setCell_other _ _ _ _ (by simp; omega)).trans hh, hr⟩
set_option maxHeartbeats 1000000 in
theorem ref_line (home : ByteArray) (AO : Option Addr) (nO cO : Nat) (A : Option Addr) (c : Nat) (M : List St) (s : ByteArray) (w : World) (hr : RowSt w A M) (hl : M.length ≤ 100) :
    Calls Tryz.prog 32 #[.agg #[.string home, .slice AO nO cO, .slice A M.length c], .string s] w fun e w' => ∃ v, e = .returned v ∧ OwnQ w' w.heap.size v (lineD M s) ∧ Below w.heap.size w w' := by
  have HR := Lib.hid hr
  have hl' : (M.length : Int) ≤ 100 := by omega
  have HI := Lib.hid (And.intro (heap_alloc_new w (.cells #[.string home, .slice AO nO cO, .slice A M.length c] 35)) (below_alloc w (.cells #[.string home, .slice AO nO cO, .slice A M.length c] 35)))
  clear hr
  go_enter Tryz.func32, Tryz.ntmps32
  go_wp2
  go_loopw [5, 6] (fun wv i wr => ∃ (k : Nat), k ≤ M.length ∧ i = .int .i64 k ∧ Hid (OwnQ wr (w.heap.size + 1) wv (lineD (M.take k) s)) ∧ Hid (wr.heap[w.heap.size]? = some (.cells #[.string home, .slice AO nO cO, .slice A M.length c] 35 (0, 0)) ∧ Below w.heap.size w wr)) (fun _ i _ => M.length - (intOf i).toNat)
  case atStart => exact ⟨0, Nat.zero_le _, rfl, Lib.hid (World.ownsRow_nil _ _ _ _), HI⟩
  case round =>
    clear HI
    obtain ⟨k, hk, rfl, HO, HB⟩ := hrel
    obtain ⟨c0, c1, c2⟩ := row3a HB.out.1
    by_cases hlt : k < M.length
    · have hlt' : (k : Int) < (M.length : Int) := by omega
      obtain ⟨b, o, rfl, hbl, y0, y1, y2, y3⟩ := (HR.out.on HB.out.2).at_ k hlt
      have HY := Lib.hid (fun h1 => lineD_yes (s := s) hlt h1)
      have HN := Lib.hid (fun h => lineD_no (s := s) hlt h)
      obtain ⟨y, hy⟩ : ∃ y, y = M[k] := ⟨_, rfl⟩
      rw [← hy] at y0 y1 y2 y3 HY HN
      clear hbl hy
      by_cases h1 : y.1 = s
      · have hb1 : (y.1.toList == s.toList) = true := by rw [str_beq]; simpa using h1
        obtain ⟨p, hp⟩ : ∃ p, p = y.2 := ⟨_, rfl⟩
        rw [← hp] at y1 y2 y3
        have HS9 : Hid (lineD (M.take (k + 1)) s = lineD (M.take k) s ++ [p]) := Lib.hid (by rw [hp]; exact HY.out h1)
        have HXb := Lib.hid (heap_alloc_new wr (.cells #[.int .i64 p.1, .int .i64 p.2.1, .int .i64 p.2.2] 24))
        have HBa := Lib.hid (below_alloc wr (.cells #[.int .i64 p.1, .int .i64 p.2.1, .int .i64 p.2.2] 24))
        have HLn : Hid ((lineD (M.take k) s).length ≤ 100) := Lib.hid (by have := lineD_len (M.take k) s; have h3 : (M.take k).length ≤ k := List.length_take_le _ _; omega)
        have HLt : Hid (w.heap.size + 1 ≤ wr.heap.size) := Lib.hid (heapLt HB.out.1)
        clear h1 hp HY HN
        go_wp2_with (at_builtin; refine wpList_append_q rfl _ _ rfl rfl (w.heap.size + 1) _ (lineD (M.take k) s) rfl (HO.out.on HBa.out) (some ⟨wr.heap.size, 0, none⟩) 1 1 [p] rfl rfl (box_row HXb.out) (by simp) (by have := HLn.out; simp; omega) (Nat.le_trans HLt.out HBa.out.size) ?_; intro v9 w9 hown hg; have HQ9 := Lib.hid hown; have HB9 : Hid (Below (w.heap.size + 1) wr w9) := (Lib.hid ((HBa.out.mono HLt.out).grown hg (Nat.le_trans HLt.out HBa.out.size) (fun k hk => (World.ownsRow.lt (HO.out.on HBa.out) k hk).1))); clear hown hg)
        go_roundw
        case rel => exact ⟨k + 1, by omega, by go_num, by rw [HS9.out]; exact HQ9, Lib.hid ⟨(HB9.out.block _ (by omega)).trans HB.out.1, HB.out.2.trans (HB9.out.mono (by omega))⟩⟩
        case measure => simp [intOf]; omega
      · have hb1 : (y.1.toList == s.toList) = false := by rw [str_beq]; simpa using h1
        have HS9 := Lib.hid (HN.out h1)
        clear h1 HY HN
        go_wp2
        go_roundw
        case rel => exact ⟨k + 1, by omega, by go_num, by rw [HS9.out]; exact HO, HB⟩
        case measure => simp [intOf]; omega
    · obtain rfl : k = M.length := by omega
      go_wp2
      go_ret
      exact ⟨_, rfl, by have := HO.out; rw [List.take_length] at this; exact this.less (by omega), HB.out.2⟩
theorem ref_opted (home : ByteArray) (AO : Option Addr) (cO : Nat) (OD : List Sp) (A : Option Addr) (n c : Nat) (day : Int) (w : World) (hr : Row w AO OD) (hl : OD.length ≤ 100) :
    Calls Tryz.prog 16 #[.agg #[.string home, .slice AO OD.length cO, .slice A n c], .int .i64 day] w fun e w' => e = .returned (.bool (atB OD day)) ∧ Below w.heap.size w w' := by
  have hb := below_alloc w (.cells #[.string home, .slice AO OD.length cO, .slice A n c] 35)
  have HA := Lib.hid (ref_at _ AO cO OD day (hr.on hb) hl)
  have HB := Lib.hid hb
  clear hr hb
  go_enter Tryz.func16, Tryz.ntmps16
  go_wp2_with (go_at_call 34; refine HA.out.mono ?_; rintro e w1 ⟨rfl, rfl⟩)
  go_ret
  exact ⟨rfl, HB.out⟩
/-- is somebody a taxable person, by the document -/
def bizD (h : ByteArray) (M : List St) (c m : ByteArray) (day : Int) : Bool := rightP c m && (decide (c = h) || !isMem c || atB (lineD M (c ++ m)) day)
set_option maxHeartbeats 1000000 in
theorem ref_business (home : ByteArray) (AO : Option Addr) (nO cO : Nat) (A : Option Addr) (cM : Nat) (M : List St) (c m : ByteArray) (day : Int) (w : World) (hr : RowSt w A M) (hl : M.length ≤ 100) (hc : c.size ≤ 500) (hm : m.size ≤ 500) :
    Calls Tryz.prog 18 #[.agg #[.string home, .slice AO nO cO, .slice A M.length cM], .string c, .string m, .int .i64 day] w fun e w' => e = .returned (.bool (bizD home M c m day)) ∧ Below w.heap.size w w' := by
  have hb := below_alloc w (.cells #[.string home, .slice AO nO cO, .slice A M.length cM] 35)
  have HI : Hid (∀ V, Below (w.alloc (.cells #[.string home, .slice AO nO cO, .slice A M.length cM] 35)).heap.size (w.alloc (.cells #[.string home, .slice AO nO cO, .slice A M.length cM] 35)) V → V.heap[w.heap.size]? = some (.cells #[.string home, .slice AO nO cO, .slice A M.length cM] 35 (0, 0))) := Lib.hid (fun V hV => heap_on hV (heap_alloc_new _ _))
  have HB := Lib.hid hb
  have HRr := Lib.hid (fun W => ref_right c m W (by omega) (by omega))
  have HMc := Lib.hid (fun W => ref_member c W)
  have HLi : Hid (∀ V, Below w.heap.size w V → Calls Tryz.prog 32 #[.agg #[.string home, .slice AO nO cO, .slice A M.length cM], .string (c ++ m)] V fun e w' => ∃ v, e = .returned v ∧ OwnQ w' V.heap.size v (lineD M (c ++ m)) ∧ Below V.heap.size V w') := Lib.hid (fun V hV => ref_line home AO nO cO A cM M (c ++ m) V (hr.on hV) hl)
  have HLn : Hid ((lineD M (c ++ m)).length ≤ 100) := Lib.hid (by have := lineD_len M (c ++ m); omega)
  have hle : ¬ 9223372036854775807 < c.size + m.size := by omega
  have heq := str_beq c home
  have hB : bizD home M c m day = (rightP c m && (decide (c = home) || !isMem c || atB (lineD M (c ++ m)) day)) := rfl
  clear hr hb
  cases h1 : rightP c m with
  | false =>
    rw [h1] at HRr hB
    rw [hB]
    clear hB HLi
    go_enter Tryz.func18, Tryz.ntmps18
    go_wp2_with (go_at_call 31; refine (HRr.out _).mono ?_; rintro e w1 ⟨rfl, hb⟩; have HB1 := Lib.hid (below_then HB.out hb); clear hb)
    go_ret
    exact ⟨rfl, HB1.out⟩
  | true =>
    rw [h1, Bool.true_and] at hB
    rw [h1] at HRr
    by_cases h2 : c = home
    · rw [decide_eq_true h2] at heq hB
      rw [Bool.true_or, Bool.true_or] at hB
      rw [hB]
      clear hB HLi h2
      go_enter Tryz.func18, Tryz.ntmps18
      go_wp2_with (go_at_call 31; refine (HRr.out _).mono ?_; rintro e w1 ⟨rfl, hb⟩; have HB1 := Lib.hid (below_then HB.out hb); obtain ⟨d0, d1, d2⟩ := row3a (HI.out _ hb); clear hb; refine Stop.out ?_)
      unfold Stop
      go_wp2
      go_ret
      exact ⟨rfl, HB1.out⟩
    · rw [decide_eq_false h2] at heq hB
      rw [Bool.false_or] at hB
      cases h3 : isMem c with
      | false =>
        rw [h3] at HMc hB
        rw [show (!false || atB (lineD M (c ++ m)) day) = true from rfl] at hB
        rw [hB]
        clear hB HLi h2
        go_enter Tryz.func18, Tryz.ntmps18
        go_wp2_with (go_at_call 31; refine (HRr.out _).mono ?_; rintro e w1 ⟨rfl, hb⟩; have HB1 := Lib.hid (below_then HB.out hb); obtain ⟨d0, d1, d2⟩ := row3a (HI.out _ hb); clear hb; refine Stop.out ?_)
        unfold Stop
        go_wp2_with (go_at_call 7; refine (HMc.out _).mono ?_; rintro e w2 ⟨rfl, hb⟩; have HB2 := Lib.hid (below_then HB1.out hb); clear hb)
        go_ret
        exact ⟨rfl, HB2.out⟩
      | true =>
        rw [h3] at HMc hB
        rw [show (!true || atB (lineD M (c ++ m)) day) = atB (lineD M (c ++ m)) day from rfl] at hB
        rw [hB]
        clear hB h2
        go_enter Tryz.func18, Tryz.ntmps18
        go_wp2_with (go_at_call 31; refine (HRr.out _).mono ?_; rintro e w1 ⟨rfl, hb⟩; have HB1 := Lib.hid (And.intro (below_then HB.out hb) hb); obtain ⟨d0, d1, d2⟩ := row3a (HI.out _ hb); clear hb; refine Stop.out ?_)
        unfold Stop
        go_wp2_with (go_at_call 7; refine (HMc.out _).mono ?_; rintro e w2 ⟨rfl, hb⟩; have HB2 := Lib.hid (And.intro (below_then HB1.out.1 hb) (below_then HB1.out.2 hb)); obtain ⟨f0, f1, f2⟩ := row3a (HI.out _ HB2.out.2); clear hb; refine Stop.out ?_)
        unfold Stop
        go_wp2_with (go_at_call 32; refine (HLi.out _ HB2.out.1).mono ?_; rintro e w3 ⟨v, rfl, ho, hb⟩; obtain ⟨A2, c2, rfl, hr2, hn2⟩ := ho.form; have HR2 := Lib.hid hr2; have HB3 := Lib.hid (below_then HB2.out.1 hb); clear hb ho hr2 hn2; refine Stop.out ?_)
        unfold Stop
        go_wp2_with (go_at_call 34; refine (ref_at _ A2 c2 _ day HR2.out HLn.out).mono ?_; rintro e w4 ⟨rfl, rfl⟩)
        go_ret
        exact ⟨rfl, HB3.out⟩
end Go.Proofs.YtgljajoknmgoeaaGreat
