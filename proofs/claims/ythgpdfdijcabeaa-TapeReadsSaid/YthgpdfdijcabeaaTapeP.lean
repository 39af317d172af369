/- The statements' own example; a batch that is none. -/
import Derived.Test.YthgpdfdijcabeaaTapeL
import Derived.Test.YthgpdfdijcabeaaTapeM
import Derived.Lib.SlBytesConst
namespace Go.Proofs.Ythgpdfdijcabeaa
open Go.RowKit
attribute [local go_sem] Oper.semAt_some
set_option maxRecDepth 100000

set_option maxHeartbeats 1000000 in
theorem code_pages_no (s : Int) (l : Text) (A : Option Addr) (c : Nat) (w : World) (hh : headOk s l.length = false) :
    Calls Try.prog 16 #[.int .i64 s, .slice A l.length c] w fun e w' => e = .returned (.tuple #[.slice none 0 0, .int .i64 2]) ∧ Below w.heap.size w w' := by
  have HH : Hid (∀ W, Calls Try.prog 59 #[headV s l.length 0] W fun e w' => e = .returned (.bool false) ∧ Below W.heap.size W w') := Lib.hid (fun W => by have := code_isHead s l.length 0 W; rwa [hh] at this)
  unfold headV at HH
  clear hh
  go_enter Try.func16, Try.ntmps16
  go_wp2_with (go_at_call 59; refine (HH.out _).mono ?_; rintro e w1 ⟨rfl, hb1⟩; have HB1 := Lib.hid (below_then (below_alloc w _) hb1); clear hb1)
  go_ret2
  exact ⟨rfl, HB1.out⟩
theorem rows_sub {w : World} {b o : Nat} {L : List Text} (h : TextRows w (some ⟨b, o, none⟩) L) (k m : Nat) : TextRows w (some ⟨b, o + k, none⟩) ((L.drop k).take m) := fun i hi => by
  have hi' : i < (L.drop k).length := by rw [List.length_take] at hi; omega
  have hk : k + i < L.length := by rw [List.length_drop] at hi'; omega
  obtain ⟨a, Ai, ci, e, hb, hc, hT, hn, hl⟩ := h (k + i) hk
  injection e with e
  subst e
  have e1 : ((L.drop k).take m)[i] = L[k + i] := by rw [List.getElem_take, List.getElem_drop]
  rw [e1]
  exact ⟨_, Ai, ci, rfl, hb, by rw [Addr.add_mid] at hc ⊢; rw [Nat.add_assoc]; exact hc, hT, hn, hl⟩
theorem yieldsIf_text {ops : Array Oper} {S : World → Prop} {o : Oper} {a : Act} (hw : Region.wanted o (yielded ops a.tmps) = true) (x : Operand) (ho : o.op = .convert 22 9 x) (A : Option Addr) (c n : Nat) (l : Text) (hn : l.length = n) (hx : a.eval x = .slice A n c)
    (hS : ∀ w, S w → Txt w A l) (hA : A = none → l = []) : YieldsIf Try.prog ops S o (.string ⟨l.toArray⟩) a := .inl ⟨hw, fun w hw' => by
  have hr := text_run_n w A c n l hn (hS w hw') hA
  unfold execOp
  simp only [ho, hx]
  rw [Sem.run_bind, hr]
  rfl⟩
def ab : Text := [97, 98]
theorem ab_pages : pagesT 3 ab = [headP 3 2 (sumN ab), cutT ab 0, endP 3 (sumN ab)] := rfl
theorem ab_cut : cutT ab 0 = ab ++ List.replicate 62 0 := by
  unfold cutT
  rw [overP_zeros _ (by decide)]
  rfl
theorem ab_len : ∀ (i : Nat) (h : i < [cutT ab 0].length), [cutT ab 0][i].length = 64 := fun i h => by
  have h0 : i = 0 := by simp only [List.length_cons, List.length_nil] at h; omega
  subst h0
  exact cutT_len ab 0
theorem ab_join : joinT [cutT ab 0] 2 = ab := by
  unfold joinT
  rw [ab_cut]
  rfl
theorem ab_joins : joinB [cutT ab 0] 2 (sumN ab) = true := by
  unfold joinB
  rw [ab_join]
  simp only [Bool.and_eq_true, decide_eq_true_eq]
  refine ⟨fun i hi => ?_, rfl⟩
  obtain rfl : i = 0 := by simpa using hi
  rfl
/-- a batch's sectors, told in a slice of their own -/
def PagesR (w : World) (s : Nat) (l : Text) (m : Nat) (e : Ending) (w' : World) : Prop := ∃ g c, e = .returned (.tuple #[.slice (some ⟨g, 0, none⟩) m c, .int .i64 0]) ∧ OwnT w.heap.size (.slice (some ⟨g, 0, none⟩) m c) (pagesT s l) w' ∧ m ≤ c ∧ Below w.heap.size w w'
theorem pagesT_len (s : Nat) (l : Text) : (pagesT s l).length = manyC l + 2 := by simp [pagesT, cutP, cutsT_len]
theorem code_pagesR (s : Nat) (l : Text) (A : Option Addr) (c : Nat) (w : World) (h1 : 1 ≤ s) (h2 : s ≤ 4611686018427387904) (h3 : 1 ≤ l.length) (h4 : l.length ≤ 131072) (hc : l.length ≤ c) (hT : Txt w A l) :
    Calls Try.prog 16 #[.int .i64 s, .slice A l.length c] w (PagesR w s l (manyC l + 2)) := by
  refine (code_pages_yes s l A c w h1 h2 h3 h4 hc hT).mono ?_
  rintro e w' ⟨v, rfl, ho, hb⟩
  obtain ⟨g, c', rfl, _, _, hc'⟩ := ho.form (by rw [pagesT_len]; omega)
  rw [pagesT_len] at ho hc'
  exact ⟨g, c', by rw [pagesT_len], ho, hc', hb⟩
set_option maxHeartbeats 2000000 in
theorem tape_lives (w : World) : Calls Try.prog 15 #[] w fun e w' => e = .returned (.bool true) ∧ Below w.heap.size w w' := by
  obtain ⟨u, hu⟩ : ∃ u, u = sumN ab := ⟨_, rfl⟩
  have hub : u < 4294967296 := by rw [hu]; exact (Crc.sumT ab).isLt
  have HP : Hid (Calls Try.prog 16 #[.int .i64 3, .slice (some ⟨w.heap.size, 0, none⟩) 2 2] (w.alloc (.cells #[.int .u8 97, .int .u8 98] 5 (2, 3))) fun e w' => ∃ g c, e = .returned (.tuple #[.slice (some ⟨g, 0, none⟩) 3 c, .int .i64 0]) ∧ OwnT (w.heap.size + 1) (.slice (some ⟨g, 0, none⟩) 3 c) [headP 3 2 u, cutT ab 0, endP 3 u] w' ∧ 3 ≤ c ∧ Below w.heap.size w w') := Lib.hid (by
    have := code_pagesR 3 ab (some ⟨w.heap.size, 0, none⟩) 2 (w.alloc (.cells #[.int .u8 97, .int .u8 98] 5 (2, 3))) (by decide) (by decide) (by decide) (by decide) (by decide) (txt_page (l := ab) (t := 5) (fr := (2, 3)) (heap_alloc_new w _))
    refine this.mono ?_
    rintro e w' ⟨g, c, rfl, ho, hc, hb⟩
    rw [ab_pages, ← hu, World.size_alloc] at ho
    exact ⟨g, c, rfl, ho, hc, below_then (below_alloc w _) hb⟩)
  have HBg : Hid (∀ W b c, 64 ≤ c → W.rangeAt b 0 ((headP 3 2 u).map cellOf) → Calls Try.prog 21 #[.slice (some ⟨b, 0, none⟩) 64 c] W fun e w' => e = .returned (.tuple #[headV 3 2 u, .bool true]) ∧ Below W.heap.size W w') := Lib.hid (fun W b c hc hr => by
    have := code_begin (headP 3 2 u) (some ⟨b, 0, none⟩) c W (mid_txt hr) (by rw [headP_len]; exact hc)
    rw [headP_len, begin_headP 3 2 u (by decide) (by decide) (by decide) (by decide) hub] at this
    exact this)
  have HJn : Hid (∀ W g c, TextRows W (some ⟨g, 1, none⟩) [cutT ab 0] → Calls Try.prog 27 #[.slice (some ⟨g, 1, none⟩) 1 c, headV 3 2 u] W fun e w' => ∃ B c, e = .returned (.tuple #[.slice B 2 c, .bool true]) ∧ Txt w' B ab ∧ (B = none → ab = []) ∧ Below W.heap.size W w') := Lib.hid (fun W g c hr => by
    have := code_join_c [cutT ab 0] (some ⟨g, 1, none⟩) c 3 2 u W rfl rfl ab_len hub hr
    refine this.mono ?_
    rintro e w' ⟨B, c, T', rfl, hT', _, _, ht, hn, hb⟩
    rw [hu, ab_joins] at hT' ⊢
    rw [if_pos rfl, ab_join] at hT'
    subst hT'
    exact ⟨B, c, rfl, ht, hn, hb⟩)
  have HEn : Hid (∀ W b c, W.rangeAt b 0 ((endP 3 u).map cellOf) → Calls Try.prog 23 #[.slice (some ⟨b, 0, none⟩) 64 c, headV 3 2 u] W fun e w' => e = .returned (.bool true) ∧ Below W.heap.size W w') := Lib.hid (fun W b c hr => by
    have := code_end (endP 3 u) (some ⟨b, 0, none⟩) c 3 2 u W (mid_txt hr) ⟨by omega, by omega⟩
    rw [endP_len] at this
    have hE : endOk (endP 3 u) 3 u = true := by
      unfold endOk
      rw [endP_len]
      simp [seqOk]
    rw [hE] at this
    exact this)
  have HN1 : Hid (∀ W, Calls Try.prog 19 #[.int .i64 1] W fun e w' => e = .returned (.int .i64 3) ∧ W = w') := Lib.hid (fun W => code_need 1 W)
  have HN2 : Hid (∀ W, Calls Try.prog 19 #[.int .i64 65] W fun e w' => e = .returned (.int .i64 4) ∧ W = w') := Lib.hid (fun W => code_need 65 W)
  have kc := fun (w : World) (C : Array Value) (n c : Nat) => Lib.run_convert_bytes_const (P := Try.prog) w 22 5 C n c Try.underlying22 Try.underlying5
  unfold headV at HBg HJn HEn
  clear hu hub
  go_enter Try.func15, Try.ntmps15
  go_wp2_with (first
    | (go_at_call 16; refine HP.out.mono ?_; rintro e w2 ⟨g, c, rfl, ho2, hc2, hb2⟩; obtain ⟨b0, c0, hx0, hy0, _, hr0, _⟩ := ho2.at_ rfl 0 (by simp); have HO2 := Lib.hid ho2; have HB2 := Lib.hid hb2; simp only [List.getElem_cons_zero, headP_len] at hx0 hy0 hr0; have HR0 := Lib.hid (And.intro hy0 hr0); clear ho2 hb2 hy0 hr0; have hc3 : (2 : Int) ≤ (c : Int) := by omega)
    | (go_at_call 21; refine (HBg.out _ _ _ HR0.out.1 HR0.out.2).mono ?_; rintro e w3 ⟨rfl, hb3⟩; have HB3 := Lib.hid hb3; clear hb3))
  have HH3 : Hid ((w3.alloc (headO 3 2 u)).heap[w3.heap.size]? = some (headO 3 2 u)) := Lib.hid (heap_alloc_new w3 _)
  have HBW : Hid (Below w2.heap.size w2 (w3.alloc (headO 3 2 u))) := Lib.hid (below_then HB3.out (below_alloc w3 _))
  have HG : Hid (w3.heap.size < (w3.alloc (headO 3 2 u)).heap.size) := Lib.hid (by simp)
  clear HP HBg HB3 hx0 HR0 kc
  unfold headO at HH3 HBW HG
  obtain ⟨gh, hgh⟩ : ∃ gh, gh = w3.heap.size := ⟨_, rfl⟩
  rw [← hgh] at HH3 HG ⊢
  generalize w3.alloc (.cells #[.int .i64 3, .int .i64 2, .int .u32 u] 35) = wb at HH3 HBW HG ⊢
  have hn1 : ¬ c = 1 := by omega
  refine wp_region_held_drew (S := fun W => W.cell? ⟨gh, 0, none⟩ = some (.int .i64 3) ∧ W.cell? ⟨gh, 1, none⟩ = some (.int .i64 2) ∧ W.cell? ⟨gh, 2, none⟩ = some (.int .u32 u)) (by kernel_rfl) (head_cells (w := wb) HH3.out) ?_
  intro hHeld
  have HOW := Lib.hid (HO2.out.on (HBW.out.drew))
  have HH4 : Hid (wb.drew.heap[gh]? = some (headO 3 2 u)) := Lib.hid HH3.out
  have HBd := Lib.hid (HB2.out.trans (HBW.out.drew.mono HB2.out.size))
  clear HH3 HBW HG HO2 HB2 hgh
  generalize wb.drew = w0 at HOW HH4 HBd hHeld ⊢
  (refine takeH (i := 0) (v := ?_) rfl (by kernel_rfl) (by kernel_rfl) (by kernel_rfl) (fun _ _ _ h => h) (Or.inl ⟨by rfl, ?_⟩) (by assumption) ?_; rotate_left; (focus ((intro wS hSw); (try dsimp only at hSw); obtain ⟨s0, s1, s2⟩ := hSw; go_simp; (try with_reducible rfl); done)); (try simp only [Act.put, List.setIfInBounds_toArray, List.set_cons_zero, List.set_cons_succ]))
  (refine takeH (i := 1) (v := ?_) rfl (by kernel_rfl) (by kernel_rfl) (by kernel_rfl) (fun _ _ _ h => h) (Or.inl ⟨by rfl, ?_⟩) (by assumption) ?_; rotate_left; (focus ((intro wS hSw); (try dsimp only at hSw); obtain ⟨s0, s1, s2⟩ := hSw; go_simp; (try with_reducible rfl); done)); (try simp only [Act.put, List.setIfInBounds_toArray, List.set_cons_zero, List.set_cons_succ]))
  (refine takeH (i := 2) (v := ?_) rfl (by kernel_rfl) (by kernel_rfl) (by kernel_rfl) (fun _ _ _ h => h) (Or.inl ⟨by rfl, ?_⟩) (by assumption) ?_; rotate_left; (focus ((intro wS hSw); (try dsimp only at hSw); obtain ⟨s0, s1, s2⟩ := hSw; go_simp; (try with_reducible rfl); done)); (try simp only [Act.put, List.setIfInBounds_toArray, List.set_cons_zero, List.set_cons_succ]))
  refine aloneH (i := 3) rfl (by kernel_rfl) (fun K hK => ?_)
  rw [if_pos (by rfl)]
  go_simp; ((refine (HJn.out w0 g (c - 1) (rows_sub ((HOW.out.on (below_same w0)).rows rfl) 1 1)).mono ?_); (rintro e w1 ⟨B, cb, rfl, htb, hnb, hb⟩); have HTB := Lib.hid (And.intro htb hnb); have HB1 := Lib.hid hb; clear htb hnb hb; (try go_simp))
  refine hK.out _ _ (⟨cell_on HB1.out hHeld.1, cell_on HB1.out hHeld.2.1, cell_on HB1.out hHeld.2.2⟩) (fun hNew => ?_)
  clear hK K hHeld; (have hHeld := hNew); clear hNew; (try simp only [Act.put, List.setIfInBounds_toArray, List.set_cons_zero, List.set_cons_succ])
  (refine takeH (i := 4) (v := ?_) rfl (by kernel_rfl) (by kernel_rfl) (by kernel_rfl) (fun _ _ _ h => h) (Or.inl ⟨by rfl, ?_⟩) (by assumption) ?_; rotate_left; (focus ((intro wS hSw); (try dsimp only at hSw); obtain ⟨s0, s1, s2⟩ := hSw; go_simp; (try with_reducible rfl); done)); (try simp only [Act.put, List.setIfInBounds_toArray, List.set_cons_zero, List.set_cons_succ]))
  (refine takeH (i := 5) (v := ?_) rfl (by kernel_rfl) (by kernel_rfl) (by kernel_rfl) (fun _ _ _ h => h) (Or.inl ⟨by rfl, ?_⟩) (by assumption) ?_; rotate_left; (focus ((intro wS hSw); (try dsimp only at hSw); obtain ⟨s0, s1, s2⟩ := hSw; go_simp; (try with_reducible rfl); done)); (try simp only [Act.put, List.setIfInBounds_toArray, List.set_cons_zero, List.set_cons_succ]))
  (refine takeH (i := 6) (v := ?_) rfl (by kernel_rfl) (by kernel_rfl) (by kernel_rfl) (fun _ _ _ h => h) (Or.inl ⟨by rfl, ?_⟩) (by assumption) ?_; rotate_left; (focus ((intro wS hSw); (try dsimp only at hSw); obtain ⟨s0, s1, s2⟩ := hSw; go_simp; (try with_reducible rfl); done)); (try simp only [Act.put, List.setIfInBounds_toArray, List.set_cons_zero, List.set_cons_succ]))
  (refine takeH (i := 7) (v := ?_) rfl (by kernel_rfl) (by kernel_rfl) (by kernel_rfl) (fun _ _ _ h => h) (Or.inl ⟨by rfl, ?_⟩) (by assumption) ?_; rotate_left; (focus ((intro wS hSw); (try dsimp only at hSw); obtain ⟨s0, s1, s2⟩ := hSw; go_simp; (try with_reducible rfl); done)); (try simp only [Act.put, List.setIfInBounds_toArray, List.set_cons_zero, List.set_cons_succ]))
  (refine takeH (i := 8) (v := ?_) rfl (by kernel_rfl) (by kernel_rfl) (by kernel_rfl) (fun _ _ _ h => h) (Or.inl ⟨by rfl, ?_⟩) (by assumption) ?_; rotate_left; (focus ((intro wS hSw); (try dsimp only at hSw); obtain ⟨s0, s1, s2⟩ := hSw; go_simp; (try with_reducible rfl); done)); (try simp only [Act.put, List.setIfInBounds_toArray, List.set_cons_zero, List.set_cons_succ]))
  refine wpAnyH_done (by kernel_rfl) ?_ _
  clear hHeld
  have HOX := Lib.hid (HOW.out.on HB1.out)
  have HHX : Hid (w1.heap[gh]? = some (headO 3 2 u)) := Lib.hid (heap_on HB1.out HH4.out)
  have HBX := Lib.hid (below_then HBd.out HB1.out)
  obtain ⟨b2, c2, hx2, hy2, _, hr2, _⟩ := HOX.out.at_ rfl 2 (by simp)
  simp only [List.getElem_cons_succ, List.getElem_cons_zero, endP_len] at hx2 hr2
  have HR2 := Lib.hid hr2
  clear HOW HH4 HBd HB1 hy2 hr2 HJn
  obtain ⟨y0, y1, y2⟩ := head_cells HHX.out
  go_wp2
  refine wp_region_held_drew (S := fun W => W.cell? ⟨gh, 0, none⟩ = some (.int .i64 3) ∧ W.cell? ⟨gh, 1, none⟩ = some (.int .i64 2) ∧ W.cell? ⟨gh, 2, none⟩ = some (.int .u32 u) ∧ W.cell? ⟨g, 2, none⟩ = some (.slice (some ⟨b2, 0, none⟩) 64 c2) ∧ W.rangeAt b2 0 ((endP 3 u).map cellOf) ∧ Txt W B ab) (by kernel_rfl) ⟨y0, y1, y2, hx2, HR2.out, HTB.out.1⟩ ?_
  intro hHeld
  have HBZ := Lib.hid HBX.out.drew
  clear y0 y1 y2 hx2 HR2 HBX HOX HHX
  generalize World.drew w1 = w9 at HBZ hHeld ⊢
  (refine takeH (i := 0) (v := ?_) rfl (by kernel_rfl) (by kernel_rfl) (by kernel_rfl) (fun _ _ _ h => h) (Or.inl ⟨by rfl, ?_⟩) (by assumption) ?_; rotate_left; (focus ((intro wS hSw); (try dsimp only at hSw); obtain ⟨s0, s1, s2, s3, s4, s5⟩ := hSw; go_simp; (try with_reducible rfl); done)); (try simp only [Act.put, List.setIfInBounds_toArray, List.set_cons_zero, List.set_cons_succ]))
  (refine takeH (i := 1) (v := ?_) rfl (by kernel_rfl) (by kernel_rfl) (by kernel_rfl) (fun _ _ _ h => h) (Or.inl ⟨by rfl, ?_⟩) (by assumption) ?_; rotate_left; (focus ((intro wS hSw); (try dsimp only at hSw); obtain ⟨s0, s1, s2, s3, s4, s5⟩ := hSw; go_simp; (try with_reducible rfl); done)); (try simp only [Act.put, List.setIfInBounds_toArray, List.set_cons_zero, List.set_cons_succ]))
  (refine takeH (i := 2) (v := ?_) rfl (by kernel_rfl) (by kernel_rfl) (by kernel_rfl) (fun _ _ _ h => h) (Or.inl ⟨by rfl, ?_⟩) (by assumption) ?_; rotate_left; (focus ((intro wS hSw); (try dsimp only at hSw); obtain ⟨s0, s1, s2, s3, s4, s5⟩ := hSw; go_simp; (try with_reducible rfl); done)); (try simp only [Act.put, List.setIfInBounds_toArray, List.set_cons_zero, List.set_cons_succ]))
  (refine takeH (i := 3) (v := ?_) rfl (by kernel_rfl) (by kernel_rfl) (by kernel_rfl) (fun _ _ _ h => h) (Or.inl ⟨by rfl, ?_⟩) (by assumption) ?_; rotate_left; (focus ((intro wS hSw); (try dsimp only at hSw); obtain ⟨s0, s1, s2, s3, s4, s5⟩ := hSw; go_simp; (try with_reducible rfl); done)); (try simp only [Act.put, List.setIfInBounds_toArray, List.set_cons_zero, List.set_cons_succ]))
  (refine takeH (i := 4) (v := ?_) rfl (by kernel_rfl) (by kernel_rfl) (by kernel_rfl) (fun _ _ _ h => h) (Or.inl ⟨by rfl, ?_⟩) (by assumption) ?_; rotate_left; (focus ((intro wS hSw); (try dsimp only at hSw); obtain ⟨s0, s1, s2, s3, s4, s5⟩ := hSw; go_simp; (try with_reducible rfl); done)); (try simp only [Act.put, List.setIfInBounds_toArray, List.set_cons_zero, List.set_cons_succ]))
  (refine takeH (i := 5) (v := ?_) rfl (by kernel_rfl) (by kernel_rfl) (by kernel_rfl) (fun _ _ _ h => h) (Or.inl ⟨by rfl, ?_⟩) (by assumption) ?_; rotate_left; (focus ((intro wS hSw); (try dsimp only at hSw); obtain ⟨s0, s1, s2, s3, s4, s5⟩ := hSw; go_simp; (try with_reducible rfl); done)); (try simp only [Act.put, List.setIfInBounds_toArray, List.set_cons_zero, List.set_cons_succ]))
  (refine takeH (i := 6) (v := (.string ⟨#[97, 98]⟩)) rfl (by kernel_rfl) (by kernel_rfl) (by kernel_rfl) (fun _ _ _ h => h) (yieldsIf_text (by rfl) (.tmp 39) rfl B cb 2 ab rfl rfl (fun _ h => h.2.2.2.2.2) HTB.out.2) (by assumption) ?_; (try simp only [Act.put, List.setIfInBounds_toArray, List.set_cons_zero, List.set_cons_succ]))
  (refine takeH (i := 7) (v := ?_) rfl (by kernel_rfl) (by kernel_rfl) (by kernel_rfl) (fun _ _ _ h => h) (Or.inl ⟨by rfl, ?_⟩) (by assumption) ?_; rotate_left; (focus ((intro wS hSw); (try dsimp only at hSw); obtain ⟨s0, s1, s2, s3, s4, s5⟩ := hSw; go_simp; (try with_reducible rfl); done)); (try simp only [Act.put, List.setIfInBounds_toArray, List.set_cons_zero, List.set_cons_succ]))
  (refine takeH (i := 8) (v := ?_) rfl (by kernel_rfl) (by kernel_rfl) (by kernel_rfl) (fun _ _ _ h => h) (Or.inl ⟨by rfl, ?_⟩) (by assumption) ?_; rotate_left; (focus ((intro wS hSw); (try dsimp only at hSw); obtain ⟨s0, s1, s2, s3, s4, s5⟩ := hSw; go_simp; (try with_reducible rfl); done)); (try simp only [Act.put, List.setIfInBounds_toArray, List.set_cons_zero, List.set_cons_succ]))
  (refine takeH (i := 9) (v := ?_) rfl (by kernel_rfl) (by kernel_rfl) (by kernel_rfl) (fun _ _ _ h => h) (Or.inl ⟨by rfl, ?_⟩) (by assumption) ?_; rotate_left; (focus ((intro wS hSw); (try dsimp only at hSw); obtain ⟨s0, s1, s2, s3, s4, s5⟩ := hSw; go_simp; (try with_reducible rfl); done)); (try simp only [Act.put, List.setIfInBounds_toArray, List.set_cons_zero, List.set_cons_succ]))
  (refine takeH (i := 10) (v := ?_) rfl (by kernel_rfl) (by kernel_rfl) (by kernel_rfl) (fun _ _ _ h => h) (Or.inl ⟨by rfl, ?_⟩) (by assumption) ?_; rotate_left; (focus ((intro wS hSw); (try dsimp only at hSw); obtain ⟨s0, s1, s2, s3, s4, s5⟩ := hSw; go_simp; (try with_reducible rfl); done)); (try simp only [Act.put, List.setIfInBounds_toArray, List.set_cons_zero, List.set_cons_succ]))
  (refine takeH (i := 11) (v := ?_) rfl (by kernel_rfl) (by kernel_rfl) (by kernel_rfl) (fun _ _ _ h => h) (Or.inl ⟨by rfl, ?_⟩) (by assumption) ?_; rotate_left; (focus ((intro wS hSw); (try dsimp only at hSw); obtain ⟨s0, s1, s2, s3, s4, s5⟩ := hSw; go_simp; (try with_reducible rfl); done)); (try simp only [Act.put, List.setIfInBounds_toArray, List.set_cons_zero, List.set_cons_succ]))
  (refine takeH (i := 12) (v := ?_) rfl (by kernel_rfl) (by kernel_rfl) (by kernel_rfl) (fun _ _ _ h => h) (Or.inl ⟨by rfl, ?_⟩) (by assumption) ?_; rotate_left; (focus ((intro wS hSw); (try dsimp only at hSw); obtain ⟨s0, s1, s2, s3, s4, s5⟩ := hSw; go_simp; (try with_reducible rfl); done)); (try simp only [Act.put, List.setIfInBounds_toArray, List.set_cons_zero, List.set_cons_succ]))
  (refine takeH (i := 13) (v := ?_) rfl (by kernel_rfl) (by kernel_rfl) (by kernel_rfl) (fun _ _ _ h => h) (Or.inl ⟨by rfl, ?_⟩) (by assumption) ?_; rotate_left; (focus ((intro wS hSw); (try dsimp only at hSw); obtain ⟨s0, s1, s2, s3, s4, s5⟩ := hSw; go_simp; (try with_reducible rfl); done)); (try simp only [Act.put, List.setIfInBounds_toArray, List.set_cons_zero, List.set_cons_succ]))
  refine aloneH (i := 14) rfl (by kernel_rfl) (fun K hK => ?_)
  rw [if_pos (by rfl)]
  go_simp; ((refine (HEn.out w9 b2 c2 hHeld.2.2.2.2.1).mono ?_); (rintro e w1 ⟨rfl, hb⟩); have HB1 := Lib.hid hb; clear hb; (try go_simp))
  refine hK.out _ _ (⟨cell_on HB1.out hHeld.1, cell_on HB1.out hHeld.2.1, cell_on HB1.out hHeld.2.2.1, cell_on HB1.out hHeld.2.2.2.1, range_on HB1.out hHeld.2.2.2.2.1, (hHeld.2.2.2.2.2).below HB1.out⟩) (fun hNew => ?_)
  clear hK K hHeld; (have hHeld := hNew); clear hNew; (try simp only [Act.put, List.setIfInBounds_toArray, List.set_cons_zero, List.set_cons_succ])
  (refine takeH (i := 15) (v := ?_) rfl (by kernel_rfl) (by kernel_rfl) (by kernel_rfl) (fun _ _ _ h => h) (Or.inl ⟨by rfl, ?_⟩) (by assumption) ?_; rotate_left; (focus ((intro wS hSw); (try dsimp only at hSw); obtain ⟨s0, s1, s2, s3, s4, s5⟩ := hSw; go_simp; (try with_reducible rfl); done)); (try simp only [Act.put, List.setIfInBounds_toArray, List.set_cons_zero, List.set_cons_succ]))
  (refine takeH (i := 16) (v := ?_) rfl (by kernel_rfl) (by kernel_rfl) (by kernel_rfl) (fun _ _ _ h => h) (Or.inl ⟨by rfl, ?_⟩) (by assumption) ?_; rotate_left; (focus ((intro wS hSw); (try dsimp only at hSw); obtain ⟨s0, s1, s2, s3, s4, s5⟩ := hSw; go_simp; (try with_reducible rfl); done)); (try simp only [Act.put, List.setIfInBounds_toArray, List.set_cons_zero, List.set_cons_succ]))
  (refine takeH (i := 17) (v := ?_) rfl (by kernel_rfl) (by kernel_rfl) (by kernel_rfl) (fun _ _ _ h => h) (Or.inl ⟨by rfl, ?_⟩) (by assumption) ?_; rotate_left; (focus ((intro wS hSw); (try dsimp only at hSw); obtain ⟨s0, s1, s2, s3, s4, s5⟩ := hSw; go_simp; (try with_reducible rfl); done)); (try simp only [Act.put, List.setIfInBounds_toArray, List.set_cons_zero, List.set_cons_succ]))
  (refine takeH (i := 18) (v := ?_) rfl (by kernel_rfl) (by kernel_rfl) (by kernel_rfl) (fun _ _ _ h => h) (Or.inl ⟨by rfl, ?_⟩) (by assumption) ?_; rotate_left; (focus ((intro wS hSw); (try dsimp only at hSw); obtain ⟨s0, s1, s2, s3, s4, s5⟩ := hSw; go_simp; (try with_reducible rfl); done)); (try simp only [Act.put, List.setIfInBounds_toArray, List.set_cons_zero, List.set_cons_succ]))
  (refine takeH (i := 19) (v := ?_) rfl (by kernel_rfl) (by kernel_rfl) (by kernel_rfl) (fun _ _ _ h => h) (Or.inl ⟨by rfl, ?_⟩) (by assumption) ?_; rotate_left; (focus ((intro wS hSw); (try dsimp only at hSw); obtain ⟨s0, s1, s2, s3, s4, s5⟩ := hSw; go_simp; (try with_reducible rfl); done)); (try simp only [Act.put, List.setIfInBounds_toArray, List.set_cons_zero, List.set_cons_succ]))
  (refine takeH (i := 20) (v := ?_) rfl (by kernel_rfl) (by kernel_rfl) (by kernel_rfl) (fun _ _ _ h => h) (Or.inl ⟨by rfl, ?_⟩) (by assumption) ?_; rotate_left; (focus ((intro wS hSw); (try dsimp only at hSw); obtain ⟨s0, s1, s2, s3, s4, s5⟩ := hSw; go_simp; (try with_reducible rfl); done)); (try simp only [Act.put, List.setIfInBounds_toArray, List.set_cons_zero, List.set_cons_succ]))
  (refine takeH (i := 21) (v := ?_) rfl (by kernel_rfl) (by kernel_rfl) (by kernel_rfl) (fun _ _ _ h => h) (Or.inl ⟨by rfl, ?_⟩) (by assumption) ?_; rotate_left; (focus ((intro wS hSw); (try dsimp only at hSw); obtain ⟨s0, s1, s2, s3, s4, s5⟩ := hSw; go_simp; (try with_reducible rfl); done)); (try simp only [Act.put, List.setIfInBounds_toArray, List.set_cons_zero, List.set_cons_succ]))
  refine aloneH (i := 22) rfl (by kernel_rfl) (fun K hK => ?_)
  rw [if_pos (by rfl)]
  go_simp; ((refine (HN1.out w1).mono ?_); (rintro e w2 ⟨rfl, rfl⟩); (try go_simp))
  have HB2 : Hid (Below w1.heap.size w1 w1) := Lib.hid (Below.refl _ _)
  refine hK.out _ _ (hHeld) (fun hNew => ?_)
  clear hK K hHeld; (have hHeld := hNew); clear hNew; (try simp only [Act.put, List.setIfInBounds_toArray, List.set_cons_zero, List.set_cons_succ])
  (refine takeH (i := 23) (v := ?_) rfl (by kernel_rfl) (by kernel_rfl) (by kernel_rfl) (fun _ _ _ h => h) (Or.inl ⟨by rfl, ?_⟩) (by assumption) ?_; rotate_left; (focus ((intro wS hSw); (try dsimp only at hSw); obtain ⟨s0, s1, s2, s3, s4, s5⟩ := hSw; go_simp; (try with_reducible rfl); done)); (try simp only [Act.put, List.setIfInBounds_toArray, List.set_cons_zero, List.set_cons_succ]))
  (refine takeH (i := 24) (v := ?_) rfl (by kernel_rfl) (by kernel_rfl) (by kernel_rfl) (fun _ _ _ h => h) (Or.inl ⟨by rfl, ?_⟩) (by assumption) ?_; rotate_left; (focus ((intro wS hSw); (try dsimp only at hSw); obtain ⟨s0, s1, s2, s3, s4, s5⟩ := hSw; go_simp; (try with_reducible rfl); done)); (try simp only [Act.put, List.setIfInBounds_toArray, List.set_cons_zero, List.set_cons_succ]))
  (refine takeH (i := 25) (v := ?_) rfl (by kernel_rfl) (by kernel_rfl) (by kernel_rfl) (fun _ _ _ h => h) (Or.inl ⟨by rfl, ?_⟩) (by assumption) ?_; rotate_left; (focus ((intro wS hSw); (try dsimp only at hSw); obtain ⟨s0, s1, s2, s3, s4, s5⟩ := hSw; go_simp; (try with_reducible rfl); done)); (try simp only [Act.put, List.setIfInBounds_toArray, List.set_cons_zero, List.set_cons_succ]))
  refine aloneH (i := 26) rfl (by kernel_rfl) (fun K hK => ?_)
  rw [if_pos (by rfl)]
  go_simp; ((refine (HN2.out w1).mono ?_); (rintro e w3 ⟨rfl, rfl⟩); (try go_simp))
  have HB3 : Hid (Below w1.heap.size w1 w1) := Lib.hid (Below.refl _ _)
  refine hK.out _ _ (hHeld) (fun hNew => ?_)
  clear hK K hHeld; (have hHeld := hNew); clear hNew; (try simp only [Act.put, List.setIfInBounds_toArray, List.set_cons_zero, List.set_cons_succ])
  (refine takeH (i := 27) (v := ?_) rfl (by kernel_rfl) (by kernel_rfl) (by kernel_rfl) (fun _ _ _ h => h) (Or.inl ⟨by rfl, ?_⟩) (by assumption) ?_; rotate_left; (focus ((intro wS hSw); (try dsimp only at hSw); obtain ⟨s0, s1, s2, s3, s4, s5⟩ := hSw; go_simp; (try with_reducible rfl); done)); (try simp only [Act.put, List.setIfInBounds_toArray, List.set_cons_zero, List.set_cons_succ]))
  (refine takeH (i := 28) (v := ?_) rfl (by kernel_rfl) (by kernel_rfl) (by kernel_rfl) (fun _ _ _ h => h) (Or.inl ⟨by rfl, ?_⟩) (by assumption) ?_; rotate_left; (focus ((intro wS hSw); (try dsimp only at hSw); obtain ⟨s0, s1, s2, s3, s4, s5⟩ := hSw; go_simp; (try with_reducible rfl); done)); (try simp only [Act.put, List.setIfInBounds_toArray, List.set_cons_zero, List.set_cons_succ]))
  (refine takeH (i := 29) (v := ?_) rfl (by kernel_rfl) (by kernel_rfl) (by kernel_rfl) (fun _ _ _ h => h) (Or.inl ⟨by rfl, ?_⟩) (by assumption) ?_; rotate_left; (focus ((intro wS hSw); (try dsimp only at hSw); obtain ⟨s0, s1, s2, s3, s4, s5⟩ := hSw; go_simp; (try with_reducible rfl); done)); (try simp only [Act.put, List.setIfInBounds_toArray, List.set_cons_zero]))
  refine wpAnyH_done (by kernel_rfl) ?_ _
  go_wp2
  go_ret
  exact ⟨rfl, below_then HBZ.out (below_then (below_then HB1.out HB2.out) HB3.out)⟩
end Go.Proofs.Ythgpdfdijcabeaa
