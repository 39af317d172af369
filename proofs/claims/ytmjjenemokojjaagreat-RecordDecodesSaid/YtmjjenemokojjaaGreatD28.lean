/- Documents as bytes, written. What is written is read as itself: numbers, texts, flags, lines, documents. The document's reader: a text, whatever stands there. The chapter's examples may be: the program's. -/
import Derived.Test.YtmjjenemokojjaaGreatD26
import Derived.Test.YtmjjenemokojjaaGreatD6
import Derived.WalkMore
import Derived.Test.YtmjjenemokojjaaGreatD12
import Derived.Test.YtmjjenemokojjaaGreatD14
import Derived.Test.YtmjjenemokojjaaGreatD11
import Derived.Test.YtmjjenemokojjaaGreatD24
import Derived.Test.YtmjjenemokojjaaGreatD19
namespace Go.Proofs.YtmjjenemokojjaaGreat
open Go.RowKit
set_option maxRecDepth 100000
set_option linter.unusedSimpArgs false
set_option linter.unusedVariables false

theorem nextS_len (S d : Option Text) : ((nextS S d).getD []).length ≤ (S.getD []).length + (d.getD []).length := by
 cases S <;> cases d <;> simp [nextS]
/-- a writer beside a box, and how much it has at most -/
def WN (w : World) (B g : Nat) (S : Option Text) (b : Nat) (o : Obj) (N : Nat) : Prop := WB w B g S b o ∧ (S.getD []).length ≤ N
theorem WN.box {w : World} {B g b N : Nat} {S : Option Text} {o : Obj} (h : WN w B g S b o N) : w.heap[b]? = some o := h.1.box
theorem WN.drew {w : World} {B g b N : Nat} {S : Option Text} {o : Obj} (h : WN w B g S b o N) : WN w.drew B g S b o N := ⟨h.1.drew, h.2⟩
theorem WN.num {w : World} {B g b N : Nat} {S : Option Text} {o : Obj} (h : WN w B g S b o N) (n : Int) (h1 : -9223372036854775808 ≤ n) (h2 : n ≤ 9223372036854775807) (hN : N ≤ 140737488000000) :
 Calls Tryz.prog 66 #[.pointer (some ⟨g, 0, none⟩), .int .i64 n] w fun e w1 => e = .returned (.pointer (some ⟨g, 0, none⟩)) ∧ WN w1 B g (nextS S (docN n)) b o (N + 70000) ∧ Below B w w1 :=
 (h.1.num n h1 h2 (Nat.le_trans h.2 hN)).mono fun e w1 ⟨a1, a2, a3⟩ => ⟨a1, ⟨a2, by have := nextS_len S (docN n); have := docN_len n h1 h2; have := h.2; omega⟩, a3⟩
theorem WN.text {w : World} {B g b N : Nat} {S : Option Text} {o : Obj} (h : WN w B g S b o N) (s : ByteArray) (h1 : s.size ≤ 9223372036854775807) (hN : N ≤ 140737488000000) :
 Calls Tryz.prog 67 #[.pointer (some ⟨g, 0, none⟩), .string s] w fun e w1 => e = .returned (.pointer (some ⟨g, 0, none⟩)) ∧ WN w1 B g (nextS S (docS s)) b o (N + 70000) ∧ Below B w w1 :=
 (h.1.text s h1 (Nat.le_trans h.2 hN)).mono fun e w1 ⟨a1, a2, a3⟩ => ⟨a1, ⟨a2, by have := nextS_len S (docS s); have := docS_len s; have := h.2; omega⟩, a3⟩
theorem WN.flag {w : World} {B g b N : Nat} {S : Option Text} {o : Obj} (h : WN w B g S b o N) (f : Bool) (hN : N ≤ 140737488000000) :
 Calls Tryz.prog 95 #[.pointer (some ⟨g, 0, none⟩), .bool f] w fun e w1 => e = .returned (.pointer (some ⟨g, 0, none⟩)) ∧ WN w1 B g (nextS S (some (flagT f))) b o (N + 70000) ∧ Below B w w1 := by
 obtain ⟨⟨v, a1, a2, a3, a4, a5⟩, hl⟩ := h
 refine (code_wflag f w B g S v a1 a2 (Nat.le_trans hl hN)).mono fun e w1 hp => ?_
 obtain ⟨b1, b2, b3⟩ := WB.of_put a1 a2 a3 a4 a5 hp
 have hf : ((some (flagT f)).getD []).length ≤ 70000 := by
  cases f <;> simp [flagT]
 exact ⟨b1, ⟨b2, by have := nextS_len S (some (flagT f)); omega⟩, b3⟩
theorem WN.start {w : World} {B g N : Nat} {S : Option Text} {v : Value} (h : Wrt w B g S v) (hB : B ≤ w.heap.size) (hl : (S.getD []).length ≤ N) (o : Obj) : WN (w.alloc o) B g S w.heap.size o N := ⟨WB.start h hB o, hl⟩
def headT (S : Option Text) (d : DocV) : Option Text := (nextS (nextS (nextS (nextS (nextS (nextS (nextS (nextS (nextS S (docS d.id)) (some (flagT d.sale))) (some (flagT d.credit))) (docS d.refers)) (docN d.day)) (docS d.country)) (docS d.number)) (docS d.currency)) (docN d.lines.length))
def lineT (S : Option Text) (l : LineV) : Option Text := (nextS (nextS (nextS (nextS (nextS (nextS (nextS (nextS (nextS S (docN l.1)) (docN l.2.1)) (docS l.2.2.1)) (docS l.2.2.2.1)) (docS l.2.2.2.2.1)) (docN l.2.2.2.2.2.1)) (some (flagT l.2.2.2.2.2.2.1))) (docN l.2.2.2.2.2.2.2.1)) (some (flagT l.2.2.2.2.2.2.2.2)))
def linesT (S : Option Text) (L : List LineV) : Option Text := L.foldl lineT S
def lineR (l : LineV) : Prop := (-9223372036854775808 ≤ l.1 ∧ l.1 ≤ 9223372036854775807) ∧ (-9223372036854775808 ≤ l.2.1 ∧ l.2.1 ≤ 9223372036854775807) ∧ (-9223372036854775808 ≤ l.2.2.2.2.2.1 ∧ l.2.2.2.2.2.1 ≤ 9223372036854775807) ∧ (-9223372036854775808 ≤ l.2.2.2.2.2.2.2.1 ∧ l.2.2.2.2.2.2.2.1 ≤ 9223372036854775807) ∧ l.2.2.1.size ≤ 140737488351232 ∧ l.2.2.2.1.size ≤ 140737488351232 ∧ l.2.2.2.2.1.size ≤ 140737488351232
theorem linesT_next {S : Option Text} {L : List LineV} {k : Nat} (hk : k < L.length) : linesT S (L.take (k + 1)) = lineT (linesT S (L.take k)) L[k] := by
 unfold linesT
 rw [List.take_succ_eq_append_getElem hk, List.foldl_append]
 rfl
end Go.Proofs.YtmjjenemokojjaaGreat

namespace Go.Proofs.YtmjjenemokojjaaGreat
open Go.RowKit
set_option maxRecDepth 100000
set_option linter.unusedSimpArgs false
set_option linter.unusedVariables false

noncomputable def nB (n : Int) : Text := (docN n).getD []
noncomputable def sB (s : ByteArray) : Text := (docS s).getD []
/-- a number that has bytes -/
def NR (n : Int) : Prop := -9223372036854775808 < n ∧ n ≤ 9223372036854775807
theorem docN_some {n : Int} (h : NR n) : docN n = some (nB n) := by
 unfold nB docN
 rw [if_neg (by have := h.1; omega)]
 rfl
theorem docS_some {s : ByteArray} (h : s.size ≤ 65536) : docS s = some (sB s) := by
 unfold sB docS
 rw [if_neg (by omega)]
 rfl
theorem nB_len {n : Int} (h : NR n) : (nB n).length ≤ 70000 := docN_len n (by have := h.1; omega) h.2
theorem sB_len (s : ByteArray) : (sB s).length ≤ 70000 := docS_len s
theorem flagT_len (b : Bool) : (flagT b).length ≤ 70000 := by cases b <;> simp [flagT]
theorem next_some (T l : Text) : nextS (some T) (some l) = some (T ++ l) := rfl
theorem numV_doc {n : Int} (h : NR n) (b : Bool) (r : Text) : numV (b, nB n ++ r) = n := by
 unfold numV
 rw [show ((b, nB n ++ r) : Bool × Text).2 = nB n ++ r from rfl, numP_doc r (docN_some h) (by have := h.1; omega) h.2]
theorem numS_doc {n : Int} (h : NR n) (b : Bool) (r : Text) : numS (b, nB n ++ r) = (b, r) := by
 unfold numS
 rw [show ((b, nB n ++ r) : Bool × Text).2 = nB n ++ r from rfl, numP_doc r (docN_some h) (by have := h.1; omega) h.2]
theorem textV_doc {s : ByteArray} (h : s.size ≤ 65536) (b : Bool) (r : Text) : textV (b, sB s ++ r) = s := by
 unfold textV
 rw [show ((b, sB s ++ r) : Bool × Text).2 = sB s ++ r from rfl, textP_doc r (docS_some h)]
theorem textS_doc {s : ByteArray} (h : s.size ≤ 65536) (b : Bool) (r : Text) : textS (b, sB s ++ r) = (b, r) := by
 unfold textS
 rw [show ((b, sB s ++ r) : Bool × Text).2 = sB s ++ r from rfl, textP_doc r (docS_some h)]
theorem flagV_doc (f : Bool) (b : Bool) (r : Text) : flagV (b, flagT f ++ r) = f := by
 unfold flagV
 rw [show ((b, flagT f ++ r) : Bool × Text).2 = flagT f ++ r from rfl, flagP_doc f r]
theorem flagS_doc (f : Bool) (b : Bool) (r : Text) : flagS (b, flagT f ++ r) = (b, r) := by
 unfold flagS
 rw [show ((b, flagT f ++ r) : Bool × Text).2 = flagT f ++ r from rfl, flagP_doc f r]
/-- a line that has bytes -/
def LF (l : LineV) : Prop := NR l.1 ∧ NR l.2.1 ∧ l.2.2.1.size ≤ 65536 ∧ l.2.2.2.1.size ≤ 65536 ∧ l.2.2.2.2.1.size ≤ 65536 ∧ NR l.2.2.2.2.2.1 ∧ NR l.2.2.2.2.2.2.2.1
noncomputable def lineW (l : LineV) (r : Text) : Text := nB l.1 ++ (nB l.2.1 ++ (sB l.2.2.1 ++ (sB l.2.2.2.1 ++ (sB l.2.2.2.2.1 ++ (nB l.2.2.2.2.2.1 ++ (flagT l.2.2.2.2.2.2.1 ++ (nB l.2.2.2.2.2.2.2.1 ++ (flagT l.2.2.2.2.2.2.2.2 ++ r))))))))
noncomputable def linesW : List LineV → Text → Text
 | [], r => r
 | l :: L, r => lineW l (linesW L r)
theorem lineV_doc {l : LineV} (h : LF l) (b : Bool) (r : Text) : lineV (b, lineW l r) = l ∧ lineS (b, lineW l r) = (b, r) := by
 obtain ⟨h1, h2, h3, h4, h5, h6, h7⟩ := h
 unfold lineV lineS lineW
 simp only [numV_doc h1, numS_doc h1, numV_doc h2, numS_doc h2, textV_doc h3, textS_doc h3, textV_doc h4, textS_doc h4, textV_doc h5, textS_doc h5, numV_doc h6, numS_doc h6, flagV_doc, flagS_doc, numV_doc h7, numS_doc h7]
 exact ⟨by trivial, by trivial⟩
theorem linesR_cons (k : Nat) : ∀ s : Bool × Text, linesR (k + 1) s = (lineV s :: (linesR k (lineS s)).1, (linesR k (lineS s)).2) := by
 induction k with
 | zero => intro s; rfl
 | succ k ih =>
   intro s
   have e : linesR (k + 1 + 1) s = ((linesR (k + 1) s).1 ++ [lineV (linesR (k + 1) s).2], lineS (linesR (k + 1) s).2) := rfl
   rw [e, ih s]
   rfl
theorem linesR_doc : ∀ (L : List LineV) (h : ∀ l ∈ L, LF l) (b : Bool) (r : Text), linesR L.length (b, linesW L r) = (L, (b, r))
 | [], _, b, r => rfl
 | l :: L, h, b, r => by
   have h1 := lineV_doc (h l (List.mem_cons_self ..)) b (linesW L r)
   rw [List.length_cons, linesR_cons]
   show (lineV (b, lineW l (linesW L r)) :: (linesR L.length (lineS (b, lineW l (linesW L r)))).1, (linesR L.length (lineS (b, lineW l (linesW L r)))).2) = _
   rw [h1.1, h1.2, linesR_doc L (fun x hx => h x (List.mem_cons_of_mem _ hx)) b r]
noncomputable def headW (d : DocV) (r : Text) : Text := sB d.id ++ (flagT d.sale ++ (flagT d.credit ++ (sB d.refers ++ (nB d.day ++ (sB d.country ++ (sB d.number ++ (sB d.currency ++ (nB d.lines.length ++ r))))))))
/-- a document that has bytes -/
def DF (d : DocV) : Prop := d.id.size ≤ 65536 ∧ d.refers.size ≤ 65536 ∧ NR d.day ∧ d.country.size ≤ 65536 ∧ d.number.size ≤ 65536 ∧ d.currency.size ≤ 65536 ∧ d.lines.length ≤ 64 ∧ ∀ l ∈ d.lines, LF l
theorem docR_doc {d : DocV} (h : DF d) (b : Bool) (r : Text) : docR (b, headW d (linesW d.lines r)) = ((d.id, d.sale, d.credit, d.refers, d.day, d.country, d.number, d.currency), d.lines, (b, r)) := by
 obtain ⟨h1, h2, h3, h4, h5, h6, h7, h8⟩ := h
 have hn : NR (d.lines.length : Int) := ⟨by omega, by omega⟩
 have hs : headS (b, headW d (linesW d.lines r)) = (b, nB d.lines.length ++ linesW d.lines r) := by
  unfold headS headW
  simp only [textV_doc h1, textS_doc h1, flagV_doc, flagS_doc, textV_doc h2, textS_doc h2, numV_doc h3, numS_doc h3, textV_doc h4, textS_doc h4, textV_doc h5, textS_doc h5, textV_doc h6, textS_doc h6]
 have hv : headV (b, headW d (linesW d.lines r)) = (d.id, d.sale, d.credit, d.refers, d.day, d.country, d.number, d.currency) := by
  unfold headV headW
  simp only [textV_doc h1, textS_doc h1, flagV_doc, flagS_doc, textV_doc h2, textS_doc h2, numV_doc h3, numS_doc h3, textV_doc h4, textS_doc h4, textV_doc h5, textS_doc h5, textV_doc h6, textS_doc h6]
 unfold docR
 rw [hs, hv, numV_doc hn, numS_doc hn, if_neg (by omega), Int.toNat_natCast, linesR_doc d.lines h8]
/-- what is written of lines -/
theorem lineT_doc {l : LineV} (h : LF l) (T r : Text) : lineT (some T) l = some (T ++ lineW l []) := by
 obtain ⟨h1, h2, h3, h4, h5, h6, h7⟩ := h
 unfold lineT lineW
 rw [docN_some h1, docN_some h2, docS_some h3, docS_some h4, docS_some h5, docN_some h6, docN_some h7]
 simp only [next_some, List.append_assoc, List.append_nil]
theorem lineW_app (l : LineV) (r : Text) : lineW l r = lineW l [] ++ r := by
 unfold lineW
 simp only [List.append_assoc, List.append_nil]
theorem linesW_app : ∀ (L : List LineV) (r : Text), linesW L r = linesW L [] ++ r
 | [], r => rfl
 | l :: L, r => by
   show lineW l (linesW L r) = lineW l (linesW L []) ++ r
   rw [linesW_app L r, lineW_app l (linesW L [] ++ r), lineW_app l (linesW L []), List.append_assoc]
theorem linesT_doc : ∀ (L : List LineV) (h : ∀ l ∈ L, LF l) (T : Text), linesT (some T) L = some (T ++ linesW L [])
 | [], _, T => by simp [linesT, linesW]
 | l :: L, h, T => by
   have e : linesT (some T) (l :: L) = linesT (lineT (some T) l) L := rfl
   rw [e, lineT_doc (h l (List.mem_cons_self ..)) T [], linesT_doc L (fun x hx => h x (List.mem_cons_of_mem _ hx))]
   show some (T ++ lineW l [] ++ linesW L []) = some (T ++ lineW l (linesW L []))
   rw [lineW_app l (linesW L []), List.append_assoc]
theorem headT_doc {d : DocV} (h : DF d) (T : Text) : headT (some T) d = some (T ++ headW d []) := by
 obtain ⟨h1, h2, h3, h4, h5, h6, h7, h8⟩ := h
 have hn : NR (d.lines.length : Int) := ⟨by omega, by omega⟩
 unfold headT headW
 rw [docS_some h1, docS_some h2, docN_some h3, docS_some h4, docS_some h5, docS_some h6, docN_some hn]
 simp only [next_some, List.append_assoc, List.append_nil]
theorem headW_app (d : DocV) (r : Text) : headW d r = headW d [] ++ r := by
 unfold headW
 simp only [List.append_assoc, List.append_nil]
theorem docT_doc {d : DocV} (h : DF d) (T : Text) : linesT (headT (some T) d) d.lines = some (T ++ headW d (linesW d.lines [])) := by
 rw [headT_doc h, linesT_doc d.lines h.2.2.2.2.2.2.2, headW_app d (linesW d.lines []), List.append_assoc]
theorem lineW_len {l : LineV} (h : LF l) : (lineW l []).length ≤ 630000 := by
 obtain ⟨h1, h2, h3, h4, h5, h6, h7⟩ := h
 unfold lineW
 have := nB_len h1; have := nB_len h2; have := sB_len l.2.2.1; have := sB_len l.2.2.2.1; have := sB_len l.2.2.2.2.1; have := nB_len h6; have := nB_len h7; have := flagT_len l.2.2.2.2.2.2.1; have := flagT_len l.2.2.2.2.2.2.2.2
 simp only [List.length_append, List.length_nil]
 omega
theorem linesW_len : ∀ (L : List LineV) (h : ∀ l ∈ L, LF l), (linesW L []).length ≤ 630000 * L.length
 | [], _ => by simp [linesW]
 | l :: L, h => by
   have h1 := lineW_len (h l (List.mem_cons_self ..))
   have h2 := linesW_len L (fun x hx => h x (List.mem_cons_of_mem _ hx))
   show (lineW l (linesW L [])).length ≤ _
   rw [lineW_app, List.length_append, List.length_cons]
   omega
theorem headW_len {d : DocV} (h : DF d) : (headW d []).length ≤ 630000 := by
 obtain ⟨h1, h2, h3, h4, h5, h6, h7, h8⟩ := h
 have hn : NR (d.lines.length : Int) := ⟨by omega, by omega⟩
 unfold headW
 have := sB_len d.id; have := sB_len d.refers; have := nB_len h3; have := sB_len d.country; have := sB_len d.number; have := sB_len d.currency; have := nB_len hn; have := flagT_len d.sale; have := flagT_len d.credit
 simp only [List.length_append, List.length_nil]
 omega
theorem docB_len {d : DocV} (h : DF d) : (headW d (linesW d.lines [])).length ≤ 41000000 := by
 have h1 := headW_len h
 have h2 := linesW_len d.lines h.2.2.2.2.2.2.2
 have h3 := h.2.2.2.2.2.2.1
 rw [headW_app, List.length_append]
 omega
end Go.Proofs.YtmjjenemokojjaaGreat

namespace Go.Proofs.YtmjjenemokojjaaGreat
open Go.RowKit
set_option maxRecDepth 100000

theorem doc_text (w : World) (g : Nat) (A : Option Addr) (T : Text) (c at_ : Nat) (bad : Bool) (hr : Drd w g A T c at_ bad) :
 Calls Tryz.prog 78 #[.pointer (some ⟨g, 0, none⟩)] w (TGot w g A T c (textP (dv T at_ bad))) := by
 have hN := doc_num w g A T c at_ bad hr
 have hlim := drd_lim hr
 cases hn : numP (dv T at_ bad) with
 | none =>
   have hD : textP (dv T at_ bad) = none := by unfold textP; rw [hn]
   rw [hD]
   rw [hn] at hN
   exact dtext_spoilt w g A T c hN
 | some p =>
   obtain ⟨n, r⟩ := p
   rw [hn] at hN
   have hT0 : T ≠ [] := by
    rintro rfl
    have : dv [] at_ bad = [] := by unfold dv; split <;> simp
    rw [this] at hn
    simp [numP] at hn
   obtain ⟨a, rfl⟩ : ∃ a, A = some a := by
    cases A with
    | none => exact absurd (hr.2.2.2.2.2.2.1 rfl) hT0
    | some a => exact ⟨a, rfl⟩
   obtain ⟨k, hk⟩ : ∃ k, k = T.length - r.length := ⟨_, rfl⟩
   have hrl : r.length ≤ T.length := by
    have h2 := numP_back hn
    obtain ⟨D, _, h3, _⟩ := h2
    have h4 : (dv T at_ bad).length ≤ T.length := by
     unfold dv
     split
     · simp
     · rw [List.length_drop]; omega
    rw [h3, List.length_append] at h4
    omega
   have hN2 : Calls Tryz.prog 77 #[.pointer (some ⟨g, 0, none⟩)] w fun e w' => (e = .returned (.int .i64 n) ∧ Only w w' g ∧ Drd w' g (some a) T c k false) := hN.mono fun e w' h => by
    obtain ⟨h1, h2, k2, h3, h4⟩ := h
    have h5 : k2 = k := by
     have := congrArg List.length (show T.drop k2 = r from h4)
     rw [List.length_drop] at this
     have := h3.2.1
     omega
    subst h5
    exact ⟨h1, h2, h3⟩
   by_cases h0 : n < 0
   · have hD : textP (dv T at_ bad) = none := by
      unfold textP; rw [hn]; simp only; rw [if_neg (by omega)]
     rw [hD]
     exact dtext_minus w g (some a) T c k n h0 hN2
   · obtain ⟨m, rfl⟩ : ∃ m : Nat, n = (m : Int) := ⟨n.toNat, by omega⟩
     by_cases h1 : 65536 < m
     · have hD : textP (dv T at_ bad) = none := by
        unfold textP; rw [hn]; simp only; rw [if_neg (by omega)]
       rw [hD]
       exact dtext_long w g (some a) T c k m h1 hN2
     · by_cases h2 : r.length < m
       · have hD : textP (dv T at_ bad) = none := by
          unfold textP; rw [hn]; simp only; rw [if_neg (by omega)]
         rw [hD]
         exact dtext_short w g (some a) T c k m r.length (by omega) (by omega) h2 hN2
       · -- what is left behind the number is what T has from k on
         have hrd : Hid True := Lib.hid trivial
         clear hrd
         have hr2 : T.drop k = r := by
          obtain ⟨D, _, h3, _⟩ := numP_back hn
          have hd : ∃ j, dv T at_ bad = T.drop j := by
           unfold dv
           split
           · exact ⟨T.length, by simp⟩
           · exact ⟨at_, rfl⟩
          obtain ⟨j, hj⟩ := hd
          rw [h3] at hj
          have h6 : r = T.drop (j + D.length) := by
           rw [← List.drop_drop, ← hj, List.drop_left]
          have h7 : r.length = T.length - (j + D.length) := by rw [h6, List.length_drop]
          rcases Nat.le_total (j + D.length) T.length with h8 | h8
          · rw [hk, h7, show T.length - (T.length - (j + D.length)) = j + D.length by omega, ← h6]
          · have h9 : r = [] := by rw [h6]; exact List.drop_eq_nil_of_le h8
            rw [hk, h9]; simp
         have hD : textP (dv T at_ bad) = some (⟨((T.drop k).take m).toArray⟩, T.drop (k + m)) := by
          unfold textP; rw [hn]; simp only
          rw [if_pos (by omega), Int.toNat_natCast, hr2, ← List.drop_drop, hr2]
         rw [hD]
         exact dtext_some w g (some a) T c k m r.length (by omega) (by omega) (by omega) a rfl (by omega) (by omega) hN2
end Go.Proofs.YtmjjenemokojjaaGreat

namespace Go.Proofs.YtmjjenemokojjaaGreat
open Go.RowKit
set_option maxRecDepth 100000
set_option linter.unusedSimpArgs false
set_option linter.unusedVariables false

theorem nil_size : (⟨#[]⟩ : ByteArray).size ≤ 140737488351232 := by decide
def kindX (k : Int) : CmdV := ⟨k, ⟨#[]⟩, ⟨#[]⟩, 0, 0, 0, 0, 0, 0, 0, 0, 0, 0, ⟨#[]⟩, false, false, ⟨#[]⟩, 0, ⟨#[]⟩, ⟨#[]⟩, ⟨#[]⟩, none, [], 0⟩
theorem kindX_ok (k : Int) (W : World) : CmdVOk W (kindX k) :=
 ⟨nil_size, nil_size, nil_size, nil_size, nil_size, nil_size, nil_size, RowLineV.nil, fun _ => ⟨rfl, rfl⟩, Nat.le_refl _, Nat.zero_le _, fun r hr => absurd hr (by simp [kindX])⟩
theorem same_kind (k : Int) (W : World) : Calls Tryz.prog 21 #[.agg #[.int .i64 k, .string ⟨#[]⟩, .string ⟨#[]⟩, .int .i64 0, .int .i64 0, .int .i64 0, .int .i64 0, .int .i64 0, .int .i64 0, .int .i64 0, .int .i64 0, .int .i64 0, .int .i64 0, .string ⟨#[]⟩, .bool false, .bool false, .string ⟨#[]⟩, .int .i64 0, .string ⟨#[]⟩, .string ⟨#[]⟩, .string ⟨#[]⟩, .slice none 0 0], .agg #[.int .i64 k, .string ⟨#[]⟩, .string ⟨#[]⟩, .int .i64 0, .int .i64 0, .int .i64 0, .int .i64 0, .int .i64 0, .int .i64 0, .int .i64 0, .int .i64 0, .int .i64 0, .int .i64 0, .string ⟨#[]⟩, .bool false, .bool false, .string ⟨#[]⟩, .int .i64 0, .string ⟨#[]⟩, .string ⟨#[]⟩, .string ⟨#[]⟩, .slice none 0 0]] W fun e w1 => e = .returned (.bool true) ∧ Below W.heap.size W w1 :=
 code_same (kindX k) (kindX k) W (kindX_ok k W) (kindX_ok k W) (Nat.zero_le _) true (by simp [sameC, kindX, sameD, docOf, likes])
def yearX : CmdV := ⟨11, ⟨#[]⟩, ⟨#[]⟩, 0, 0, 0, 0, 0, 0, 0, 3, 2024, 1, ⟨#[]⟩, false, false, ⟨#[]⟩, 0, ⟨#[]⟩, ⟨#[]⟩, ⟨#[]⟩, none, [], 0⟩
theorem bare_year : bare11 #[.int .i64 11, .string ⟨#[]⟩, .string ⟨#[]⟩, .int .i64 0, .int .i64 0, .int .i64 0, .int .i64 0, .int .i64 0, .int .i64 0, .int .i64 0, .int .i64 3, .int .i64 2024, .int .i64 1, .string ⟨#[]⟩, .bool false, .bool false, .string ⟨#[]⟩, .int .i64 0, .string ⟨#[]⟩, .string ⟨#[]⟩, .string ⟨#[]⟩, .slice none 0 0] = #[.int .i64 11, .string ⟨#[]⟩, .string ⟨#[]⟩, .int .i64 0, .int .i64 0, .int .i64 0, .int .i64 0, .int .i64 0, .int .i64 0, .int .i64 0, .int .i64 0, .int .i64 0, .int .i64 0, .string ⟨#[]⟩, .bool false, .bool false, .string ⟨#[]⟩, .int .i64 0, .string ⟨#[]⟩, .string ⟨#[]⟩, .string ⟨#[]⟩, .slice none 0 0] := by simp [bare11]
theorem one_kind (k : Int) : (#[.int .i64 k, .string ⟨#[]⟩, .string ⟨#[]⟩, .int .i64 0, .int .i64 0, .int .i64 0, .int .i64 0, .int .i64 0, .int .i64 0, .int .i64 0, .int .i64 0, .int .i64 0, .int .i64 0, .string ⟨#[]⟩, .bool false, .bool false, .string ⟨#[]⟩, .int .i64 0, .string ⟨#[]⟩, .string ⟨#[]⟩, .string ⟨#[]⟩, .slice none 0 0] : Array Value).all (·.oneCell') = true := by simp [Value.oneCell']
theorem good_year (W : World) : Calls Tryz.prog 8 #[.agg #[.int .i64 11, .string ⟨#[]⟩, .string ⟨#[]⟩, .int .i64 0, .int .i64 0, .int .i64 0, .int .i64 0, .int .i64 0, .int .i64 0, .int .i64 0, .int .i64 3, .int .i64 2024, .int .i64 1, .string ⟨#[]⟩, .bool false, .bool false, .string ⟨#[]⟩, .int .i64 0, .string ⟨#[]⟩, .string ⟨#[]⟩, .string ⟨#[]⟩, .slice none 0 0]] W fun e w1 => e = .returned (.bool true) ∧ Below W.heap.size W w1 :=
 good_yes #[.int .i64 11, .string ⟨#[]⟩, .string ⟨#[]⟩, .int .i64 0, .int .i64 0, .int .i64 0, .int .i64 0, .int .i64 0, .int .i64 0, .int .i64 0, .int .i64 3, .int .i64 2024, .int .i64 1, .string ⟨#[]⟩, .bool false, .bool false, .string ⟨#[]⟩, .int .i64 0, .string ⟨#[]⟩, .string ⟨#[]⟩, .string ⟨#[]⟩, .slice none 0 0] 11 #[.int .i64 11, .string ⟨#[]⟩, .string ⟨#[]⟩, .int .i64 0, .int .i64 0, .int .i64 0, .int .i64 0, .int .i64 0, .int .i64 0, .int .i64 0, .int .i64 0, .int .i64 0, .int .i64 0, .string ⟨#[]⟩, .bool false, .bool false, .string ⟨#[]⟩, .int .i64 0, .string ⟨#[]⟩, .string ⟨#[]⟩, .string ⟨#[]⟩, .slice none 0 0] true W rfl rfl
  (Lib.hid (fun W' _ => areGood_11 yearX W' rfl))
  (Lib.hid (fun W' => by have h := unnamed_11 #[.int .i64 11, .string ⟨#[]⟩, .string ⟨#[]⟩, .int .i64 0, .int .i64 0, .int .i64 0, .int .i64 0, .int .i64 0, .int .i64 0, .int .i64 0, .int .i64 3, .int .i64 2024, .int .i64 1, .string ⟨#[]⟩, .bool false, .bool false, .string ⟨#[]⟩, .int .i64 0, .string ⟨#[]⟩, .string ⟨#[]⟩, .string ⟨#[]⟩, .slice none 0 0] W' rfl rfl (by rw [bare_year]; exact one_kind 11); rw [bare_year] at h; exact h))
  (Lib.hid (fun W' _ => same_kind 11 W'))
def simpleL : LineV := (2, 1, ⟨#[]⟩, ⟨#[]⟩, ⟨#[]⟩, 1000, false, 0, false)
def simpleD (A : Addr) (c : Nat) : DocV := ⟨⟨#[97]⟩, true, false, ⟨#[]⟩, 19000, ⟨#[68, 69]⟩, ⟨#[]⟩, ⟨#[]⟩, some A, [simpleL], c⟩
def simpleX (A : Addr) (c : Nat) : CmdV := ⟨8, ⟨#[]⟩, ⟨#[]⟩, 0, 0, 0, 0, 0, 0, 0, 0, 0, 0, ⟨#[97]⟩, true, false, ⟨#[]⟩, 19000, ⟨#[68, 69]⟩, ⟨#[]⟩, ⟨#[]⟩, some A, [simpleL], c⟩
theorem simpleD_ok {A : Addr} {c : Nat} {W : World} (h : RowLineV W (some A) [simpleL]) (h1 : 1 ≤ c) (h2 : c ≤ maxLen) : DocVOk W (simpleD A c) :=
 ⟨show (⟨#[97]⟩ : ByteArray).size ≤ _ by decide, show (⟨#[]⟩ : ByteArray).size ≤ _ by decide, show (⟨#[68, 69]⟩ : ByteArray).size ≤ _ by decide, show (⟨#[]⟩ : ByteArray).size ≤ _ by decide, show (⟨#[]⟩ : ByteArray).size ≤ _ by decide, h, fun e => absurd e (by simp [simpleD]), h1, h2, fun r hr => by
  have : r = simpleL := by simpa [simpleD] using hr
  subst this
  exact ⟨by decide, by decide, by decide⟩⟩
theorem simple_doc (A : Addr) (c : Nat) (W : World) (h : RowLineV W (some A) [simpleL]) (h1 : 1 ≤ c) (h2 : c ≤ maxLen) : Calls Tryz.prog 10 #[.agg #[.string ⟨#[97]⟩, .bool true, .bool false, .string ⟨#[]⟩, .int .i64 19000, .string ⟨#[68, 69]⟩, .string ⟨#[]⟩, .string ⟨#[]⟩, .slice (some A) 1 c]] W fun e w1 => e = .returned (.bool true) ∧ Below W.heap.size W w1 :=
 goodDoc_bare (simpleD A c) true W (simpleD_ok h h1 h2) (show ([simpleL] : List LineV).length ≤ _ by decide) (show (⟨#[]⟩ : ByteArray).toList.isEmpty = true by decide +kernel) (show (⟨#[]⟩ : ByteArray).toList.isEmpty = true by decide +kernel) (by
  show docGood (simpleD A c) true true = true
  have e : docGood (simpleD A c) true true = docGood (simpleD ⟨0, 0, none⟩ 1) true true := rfl
  rw [e]
  decide +kernel)
theorem bare_simple (A : Addr) (c : Nat) : bare8 #[.int .i64 8, .string ⟨#[]⟩, .string ⟨#[]⟩, .int .i64 0, .int .i64 0, .int .i64 0, .int .i64 0, .int .i64 0, .int .i64 0, .int .i64 0, .int .i64 0, .int .i64 0, .int .i64 0, .string ⟨#[97]⟩, .bool true, .bool false, .string ⟨#[]⟩, .int .i64 19000, .string ⟨#[68, 69]⟩, .string ⟨#[]⟩, .string ⟨#[]⟩, .slice (some A) 1 c] = #[.int .i64 8, .string ⟨#[]⟩, .string ⟨#[]⟩, .int .i64 0, .int .i64 0, .int .i64 0, .int .i64 0, .int .i64 0, .int .i64 0, .int .i64 0, .int .i64 0, .int .i64 0, .int .i64 0, .string ⟨#[]⟩, .bool false, .bool false, .string ⟨#[]⟩, .int .i64 0, .string ⟨#[]⟩, .string ⟨#[]⟩, .string ⟨#[]⟩, .slice none 0 0] := by simp [bare8]
theorem good_simple (A : Addr) (c : Nat) (W : World) (h : RowLineV W (some A) [simpleL]) (h1 : 1 ≤ c) (h2 : c ≤ maxLen) : Calls Tryz.prog 8 #[.agg #[.int .i64 8, .string ⟨#[]⟩, .string ⟨#[]⟩, .int .i64 0, .int .i64 0, .int .i64 0, .int .i64 0, .int .i64 0, .int .i64 0, .int .i64 0, .int .i64 0, .int .i64 0, .int .i64 0, .string ⟨#[97]⟩, .bool true, .bool false, .string ⟨#[]⟩, .int .i64 19000, .string ⟨#[68, 69]⟩, .string ⟨#[]⟩, .string ⟨#[]⟩, .slice (some A) 1 c]] W fun e w1 => e = .returned (.bool true) ∧ Below W.heap.size W w1 :=
 good_yes #[.int .i64 8, .string ⟨#[]⟩, .string ⟨#[]⟩, .int .i64 0, .int .i64 0, .int .i64 0, .int .i64 0, .int .i64 0, .int .i64 0, .int .i64 0, .int .i64 0, .int .i64 0, .int .i64 0, .string ⟨#[97]⟩, .bool true, .bool false, .string ⟨#[]⟩, .int .i64 19000, .string ⟨#[68, 69]⟩, .string ⟨#[]⟩, .string ⟨#[]⟩, .slice (some A) 1 c] 8 #[.int .i64 8, .string ⟨#[]⟩, .string ⟨#[]⟩, .int .i64 0, .int .i64 0, .int .i64 0, .int .i64 0, .int .i64 0, .int .i64 0, .int .i64 0, .int .i64 0, .int .i64 0, .int .i64 0, .string ⟨#[]⟩, .bool false, .bool false, .string ⟨#[]⟩, .int .i64 0, .string ⟨#[]⟩, .string ⟨#[]⟩, .string ⟨#[]⟩, .slice none 0 0] true W rfl rfl
  (Lib.hid (fun W' hb => areGood_8 (simpleX A c) true W' rfl (Lib.hid (fun W2 hb2 => simple_doc A c W2 (h.on (below_then hb hb2)) h1 h2))))
  (Lib.hid (fun W' => by have h := unnamed_8 #[.int .i64 8, .string ⟨#[]⟩, .string ⟨#[]⟩, .int .i64 0, .int .i64 0, .int .i64 0, .int .i64 0, .int .i64 0, .int .i64 0, .int .i64 0, .int .i64 0, .int .i64 0, .int .i64 0, .string ⟨#[97]⟩, .bool true, .bool false, .string ⟨#[]⟩, .int .i64 19000, .string ⟨#[68, 69]⟩, .string ⟨#[]⟩, .string ⟨#[]⟩, .slice (some A) 1 c] W' rfl rfl (by rw [bare_simple]; exact one_kind 8); rw [bare_simple] at h; exact h))
  (Lib.hid (fun W' _ => same_kind 8 W'))
end Go.Proofs.YtmjjenemokojjaaGreat
