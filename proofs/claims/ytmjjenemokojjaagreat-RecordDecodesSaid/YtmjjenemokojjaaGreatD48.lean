/- What may be has bytes, and these are what is written. A document, as the document reads it. -/
import Derived.Test.YtmjjenemokojjaaGreatD47
import Derived.Test.YtmjjenemokojjaaGreatD46
import Derived.Test.YtmjjenemokojjaaGreatD44
import Derived.WalkMore
import Derived.Test.YtmjjenemokojjaaGreatD39
import Derived.Test.YtmjjenemokojjaaGreatD13
import Derived.Laws.Rows
import Derived.Laws.Tables
import Derived.Laws.CopyRow
namespace Go.Proofs.YtmjjenemokojjaaGreat
open Go.RowKit
set_option maxRecDepth 100000
set_option linter.unusedSimpArgs false
set_option linter.unusedVariables false

noncomputable def bodyT (x : CmdV) : Text := if x.kind = 1 then (sB x.state ++ (nB x.index ++ (nB x.from_ ++ []))) else if x.kind = 2 then (sB x.state ++ (nB x.category ++ (nB x.from_ ++ (nB x.until_ ++ (nB x.bp ++ []))))) else if x.kind = 3 then (nB x.from_ ++ (nB x.until_ ++ [])) else if x.kind = 4 then (sB x.state ++ (sB x.text ++ (nB x.from_ ++ (nB x.until_ ++ [])))) else if x.kind = 5 then (sB x.text ++ (nB x.py ++ (nB x.pi ++ (nB x.num ++ (nB x.den ++ []))))) else if x.kind = 6 then (sB x.text ++ []) else if x.kind = 7 then (nB x.py ++ (nB x.num ++ [])) else if x.kind = 8 then headW (docOf x) (linesW x.lines []) else if x.kind = 9 then (nB x.pk ++ (nB x.py ++ (nB x.pi ++ []))) else if x.kind = 10 then (nB x.pk ++ (nB x.py ++ (nB x.pi ++ []))) else if x.kind = 11 then (nB x.py ++ []) else []
noncomputable def encT (x : CmdV) : Text := nB x.kind ++ bodyT x
theorem per_or {pk py pi : Int} (h : perB 1 pk py pi = true ∨ perB 2 pk py pi = true) : NR pk ∧ NR py ∧ NR pi := by
 rcases h with h | h
 · have := per_is h
   exact ⟨by rw [this.1]; exact ⟨by omega, by omega⟩, this.2.1, this.2.2.1⟩
 · have := per_is h
   exact ⟨by rw [this.1]; exact ⟨by omega, by omega⟩, this.2.1, this.2.2.1⟩
theorem goodC_1 {x : CmdV} (hk : x.kind = 1) : goodC x = ((isMem x.state && (inB x.index 1 2 && inB x.from_ 0 2932896)) && sameC (un1 x) (kindX x.kind)) := by unfold goodC; rw [if_pos hk]
theorem bodyT_1 {x : CmdV} (hk : x.kind = 1) : bodyT x = (sB x.state ++ (nB x.index ++ (nB x.from_ ++ []))) := by unfold bodyT; rw [if_pos hk]
theorem goodC_2 {x : CmdV} (hk : x.kind = 2) : goodC x = ((isMem x.state && (inB x.category 1 3 && (inB x.bp 0 10000 && stretchB x.from_ x.until_))) && sameC (un2 x) (kindX x.kind)) := by unfold goodC; rw [if_neg (by omega)]; rw [if_pos hk]
theorem bodyT_2 {x : CmdV} (hk : x.kind = 2) : bodyT x = (sB x.state ++ (nB x.category ++ (nB x.from_ ++ (nB x.until_ ++ (nB x.bp ++ []))))) := by unfold bodyT; rw [if_neg (by omega)]; rw [if_pos hk]
theorem goodC_3 {x : CmdV} (hk : x.kind = 3) : goodC x = ((stretchB x.from_ x.until_) && sameC (un3 x) (kindX x.kind)) := by unfold goodC; rw [if_neg (by omega)]; rw [if_neg (by omega)]; rw [if_pos hk]
theorem bodyT_3 {x : CmdV} (hk : x.kind = 3) : bodyT x = (nB x.from_ ++ (nB x.until_ ++ [])) := by unfold bodyT; rw [if_neg (by omega)]; rw [if_neg (by omega)]; rw [if_pos hk]
theorem goodC_4 {x : CmdV} (hk : x.kind = 4) : goodC x = ((rightP x.state x.text && stretchB x.from_ x.until_) && sameC (un4 x) (kindX x.kind)) := by unfold goodC; rw [if_neg (by omega)]; rw [if_neg (by omega)]; rw [if_neg (by omega)]; rw [if_pos hk]
theorem bodyT_4 {x : CmdV} (hk : x.kind = 4) : bodyT x = (sB x.state ++ (sB x.text ++ (nB x.from_ ++ (nB x.until_ ++ [])))) := by unfold bodyT; rw [if_neg (by omega)]; rw [if_neg (by omega)]; rw [if_neg (by omega)]; rw [if_pos hk]
theorem goodC_5 {x : CmdV} (hk : x.kind = 5) : goodC x = ((currB x.text && (perB 2 x.pk x.py x.pi && (inB x.num 1 1099511627776 && inB x.den 1 1099511627776))) && sameC (un5 x) (kindX x.kind)) := by unfold goodC; rw [if_neg (by omega)]; rw [if_neg (by omega)]; rw [if_neg (by omega)]; rw [if_neg (by omega)]; rw [if_pos hk]
theorem bodyT_5 {x : CmdV} (hk : x.kind = 5) : bodyT x = (sB x.text ++ (nB x.py ++ (nB x.pi ++ (nB x.num ++ (nB x.den ++ []))))) := by unfold bodyT; rw [if_neg (by omega)]; rw [if_neg (by omega)]; rw [if_neg (by omega)]; rw [if_neg (by omega)]; rw [if_pos hk]
theorem goodC_6 {x : CmdV} (hk : x.kind = 6) : goodC x = ((decide (x.text.size ≤ 65536)) && sameC (un6 x) (kindX x.kind)) := by unfold goodC; rw [if_neg (by omega)]; rw [if_neg (by omega)]; rw [if_neg (by omega)]; rw [if_neg (by omega)]; rw [if_neg (by omega)]; rw [if_pos hk]
theorem bodyT_6 {x : CmdV} (hk : x.kind = 6) : bodyT x = (sB x.text ++ []) := by unfold bodyT; rw [if_neg (by omega)]; rw [if_neg (by omega)]; rw [if_neg (by omega)]; rw [if_neg (by omega)]; rw [if_neg (by omega)]; rw [if_pos hk]
theorem goodC_7 {x : CmdV} (hk : x.kind = 7) : goodC x = ((inB x.num 0 100 && perB 3 x.pk x.py x.pi) && sameC (un7 x) (kindX x.kind)) := by unfold goodC; rw [if_neg (by omega)]; rw [if_neg (by omega)]; rw [if_neg (by omega)]; rw [if_neg (by omega)]; rw [if_neg (by omega)]; rw [if_neg (by omega)]; rw [if_pos hk]
theorem bodyT_7 {x : CmdV} (hk : x.kind = 7) : bodyT x = (nB x.py ++ (nB x.num ++ [])) := by unfold bodyT; rw [if_neg (by omega)]; rw [if_neg (by omega)]; rw [if_neg (by omega)]; rw [if_neg (by omega)]; rw [if_neg (by omega)]; rw [if_neg (by omega)]; rw [if_pos hk]
theorem goodC_8 {x : CmdV} (hk : x.kind = 8) : goodC x = ((docGood (docOf x) (rightP x.country x.number) (currB x.currency)) && sameC (un8 x) (kindX x.kind)) := by unfold goodC; rw [if_neg (by omega)]; rw [if_neg (by omega)]; rw [if_neg (by omega)]; rw [if_neg (by omega)]; rw [if_neg (by omega)]; rw [if_neg (by omega)]; rw [if_neg (by omega)]; rw [if_pos hk]
theorem bodyT_8 {x : CmdV} (hk : x.kind = 8) : bodyT x = headW (docOf x) (linesW x.lines []) := by unfold bodyT; rw [if_neg (by omega)]; rw [if_neg (by omega)]; rw [if_neg (by omega)]; rw [if_neg (by omega)]; rw [if_neg (by omega)]; rw [if_neg (by omega)]; rw [if_neg (by omega)]; rw [if_pos hk]
theorem goodC_9 {x : CmdV} (hk : x.kind = 9) : goodC x = ((perB 1 x.pk x.py x.pi || perB 2 x.pk x.py x.pi) && sameC (un9 x) (kindX x.kind)) := by unfold goodC; rw [if_neg (by omega)]; rw [if_neg (by omega)]; rw [if_neg (by omega)]; rw [if_neg (by omega)]; rw [if_neg (by omega)]; rw [if_neg (by omega)]; rw [if_neg (by omega)]; rw [if_neg (by omega)]; rw [if_pos hk]
theorem bodyT_9 {x : CmdV} (hk : x.kind = 9) : bodyT x = (nB x.pk ++ (nB x.py ++ (nB x.pi ++ []))) := by unfold bodyT; rw [if_neg (by omega)]; rw [if_neg (by omega)]; rw [if_neg (by omega)]; rw [if_neg (by omega)]; rw [if_neg (by omega)]; rw [if_neg (by omega)]; rw [if_neg (by omega)]; rw [if_neg (by omega)]; rw [if_pos hk]
theorem goodC_10 {x : CmdV} (hk : x.kind = 10) : goodC x = ((perB 1 x.pk x.py x.pi || perB 2 x.pk x.py x.pi) && sameC (un10 x) (kindX x.kind)) := by unfold goodC; rw [if_neg (by omega)]; rw [if_neg (by omega)]; rw [if_neg (by omega)]; rw [if_neg (by omega)]; rw [if_neg (by omega)]; rw [if_neg (by omega)]; rw [if_neg (by omega)]; rw [if_neg (by omega)]; rw [if_neg (by omega)]; rw [if_pos hk]
theorem bodyT_10 {x : CmdV} (hk : x.kind = 10) : bodyT x = (nB x.pk ++ (nB x.py ++ (nB x.pi ++ []))) := by unfold bodyT; rw [if_neg (by omega)]; rw [if_neg (by omega)]; rw [if_neg (by omega)]; rw [if_neg (by omega)]; rw [if_neg (by omega)]; rw [if_neg (by omega)]; rw [if_neg (by omega)]; rw [if_neg (by omega)]; rw [if_neg (by omega)]; rw [if_pos hk]
theorem goodC_11 {x : CmdV} (hk : x.kind = 11) : goodC x = ((perB 3 x.pk x.py x.pi) && sameC (un11 x) (kindX x.kind)) := by unfold goodC; rw [if_neg (by omega)]; rw [if_neg (by omega)]; rw [if_neg (by omega)]; rw [if_neg (by omega)]; rw [if_neg (by omega)]; rw [if_neg (by omega)]; rw [if_neg (by omega)]; rw [if_neg (by omega)]; rw [if_neg (by omega)]; rw [if_neg (by omega)]; rw [if_pos hk]
theorem bodyT_11 {x : CmdV} (hk : x.kind = 11) : bodyT x = (nB x.py ++ []) := by unfold bodyT; rw [if_neg (by omega)]; rw [if_neg (by omega)]; rw [if_neg (by omega)]; rw [if_neg (by omega)]; rw [if_neg (by omega)]; rw [if_neg (by omega)]; rw [if_neg (by omega)]; rw [if_neg (by omega)]; rw [if_neg (by omega)]; rw [if_neg (by omega)]; rw [if_pos hk]
theorem goodC_O {x : CmdV} (hk : x.kind < 1 ∨ 11 < x.kind) : goodC x = false := by unfold goodC; rw [if_neg (by omega)]; rw [if_neg (by omega)]; rw [if_neg (by omega)]; rw [if_neg (by omega)]; rw [if_neg (by omega)]; rw [if_neg (by omega)]; rw [if_neg (by omega)]; rw [if_neg (by omega)]; rw [if_neg (by omega)]; rw [if_neg (by omega)]; rw [if_neg (by omega)]
theorem good_is_1 {x : CmdV} (hk : x.kind = 1) (hg : goodC x = true) : (isMem x.state && (inB x.index 1 2 && inB x.from_ 0 2932896)) = true ∧ sameC x (on1 x) = true := by
 rw [goodC_1 hk, ← sames_1] at hg
 exact Bool.and_eq_true_iff.1 hg
theorem good_is_2 {x : CmdV} (hk : x.kind = 2) (hg : goodC x = true) : (isMem x.state && (inB x.category 1 3 && (inB x.bp 0 10000 && stretchB x.from_ x.until_))) = true ∧ sameC x (on2 x) = true := by
 rw [goodC_2 hk, ← sames_2] at hg
 exact Bool.and_eq_true_iff.1 hg
theorem good_is_3 {x : CmdV} (hk : x.kind = 3) (hg : goodC x = true) : (stretchB x.from_ x.until_) = true ∧ sameC x (on3 x) = true := by
 rw [goodC_3 hk, ← sames_3] at hg
 exact Bool.and_eq_true_iff.1 hg
theorem good_is_4 {x : CmdV} (hk : x.kind = 4) (hg : goodC x = true) : (rightP x.state x.text && stretchB x.from_ x.until_) = true ∧ sameC x (on4 x) = true := by
 rw [goodC_4 hk, ← sames_4] at hg
 exact Bool.and_eq_true_iff.1 hg
theorem good_is_5 {x : CmdV} (hk : x.kind = 5) (hg : goodC x = true) : (currB x.text && (perB 2 x.pk x.py x.pi && (inB x.num 1 1099511627776 && inB x.den 1 1099511627776))) = true ∧ sameC x (on5 x) = true := by
 rw [goodC_5 hk, ← sames_5] at hg
 exact Bool.and_eq_true_iff.1 hg
theorem good_is_6 {x : CmdV} (hk : x.kind = 6) (hg : goodC x = true) : (decide (x.text.size ≤ 65536)) = true ∧ sameC x (on6 x) = true := by
 rw [goodC_6 hk, ← sames_6] at hg
 exact Bool.and_eq_true_iff.1 hg
theorem good_is_7 {x : CmdV} (hk : x.kind = 7) (hg : goodC x = true) : (inB x.num 0 100 && perB 3 x.pk x.py x.pi) = true ∧ sameC x (on7 x) = true := by
 rw [goodC_7 hk, ← sames_7] at hg
 exact Bool.and_eq_true_iff.1 hg
theorem good_is_8 {x : CmdV} (hk : x.kind = 8) (hg : goodC x = true) : (docGood (docOf x) (rightP x.country x.number) (currB x.currency)) = true ∧ sameC x (on8 x) = true := by
 rw [goodC_8 hk, ← sames_8] at hg
 exact Bool.and_eq_true_iff.1 hg
theorem good_is_9 {x : CmdV} (hk : x.kind = 9) (hg : goodC x = true) : (perB 1 x.pk x.py x.pi || perB 2 x.pk x.py x.pi) = true ∧ sameC x (on9 x) = true := by
 rw [goodC_9 hk, ← sames_9] at hg
 exact Bool.and_eq_true_iff.1 hg
theorem good_is_10 {x : CmdV} (hk : x.kind = 10) (hg : goodC x = true) : (perB 1 x.pk x.py x.pi || perB 2 x.pk x.py x.pi) = true ∧ sameC x (on10 x) = true := by
 rw [goodC_10 hk, ← sames_10] at hg
 exact Bool.and_eq_true_iff.1 hg
theorem good_is_11 {x : CmdV} (hk : x.kind = 11) (hg : goodC x = true) : (perB 3 x.pk x.py x.pi) = true ∧ sameC x (on11 x) = true := by
 rw [goodC_11 hk, ← sames_11] at hg
 exact Bool.and_eq_true_iff.1 hg
theorem fit_1 {x : CmdV} (hk : x.kind = 1) (hg : goodC x = true) : x.state.size ≤ 65536 ∧ NR x.index ∧ NR x.from_ := by
 have h := (good_is_1 hk hg).1
 try simp only [Bool.and_eq_true, Bool.or_eq_true, decide_eq_true_eq] at h
 exact ⟨mem_size h.1, in_NR h.2.1 (by omega) (by omega), in_NR h.2.2 (by omega) (by omega)⟩
theorem bytes_1 {x : CmdV} (hk : x.kind = 1) (hg : goodC x = true) : (nextS (nextS (nextS (nextS (some []) (docN 1)) (docS x.state)) (docN x.index)) (docN x.from_)) = some (encT x) := by
 have h := fit_1 hk hg
 have hn : NR (1 : Int) := ⟨by omega, by omega⟩
 unfold encT
 rw [bodyT_1 hk, hk, docN_some hn, docS_some (h.1), docN_some (h.2.1), docN_some (h.2.2)]
 simp only [next_some, List.append_assoc, List.append_nil, List.nil_append]
theorem len_1 {x : CmdV} (hk : x.kind = 1) (hg : goodC x = true) : (bodyT x).length ≤ 41000000 := by
 have h := fit_1 hk hg
 rw [bodyT_1 hk]
 have l0 := sB_len x.state
 have l1 := nB_len (h.2.1)
 have l2 := nB_len (h.2.2)
 simp only [List.length_append, List.length_nil]
 omega
theorem fit_2 {x : CmdV} (hk : x.kind = 2) (hg : goodC x = true) : x.state.size ≤ 65536 ∧ NR x.category ∧ NR x.from_ ∧ NR x.until_ ∧ NR x.bp := by
 have h := (good_is_2 hk hg).1
 try simp only [Bool.and_eq_true, Bool.or_eq_true, decide_eq_true_eq] at h
 exact ⟨mem_size h.1, in_NR h.2.1 (by omega) (by omega), (stretch_NR h.2.2.2).1, (stretch_NR h.2.2.2).2, in_NR h.2.2.1 (by omega) (by omega)⟩
theorem bytes_2 {x : CmdV} (hk : x.kind = 2) (hg : goodC x = true) : (nextS (nextS (nextS (nextS (nextS (nextS (some []) (docN 2)) (docS x.state)) (docN x.category)) (docN x.from_)) (docN x.until_)) (docN x.bp)) = some (encT x) := by
 have h := fit_2 hk hg
 have hn : NR (2 : Int) := ⟨by omega, by omega⟩
 unfold encT
 rw [bodyT_2 hk, hk, docN_some hn, docS_some (h.1), docN_some (h.2.1), docN_some (h.2.2.1), docN_some (h.2.2.2.1), docN_some (h.2.2.2.2)]
 simp only [next_some, List.append_assoc, List.append_nil, List.nil_append]
theorem len_2 {x : CmdV} (hk : x.kind = 2) (hg : goodC x = true) : (bodyT x).length ≤ 41000000 := by
 have h := fit_2 hk hg
 rw [bodyT_2 hk]
 have l0 := sB_len x.state
 have l1 := nB_len (h.2.1)
 have l2 := nB_len (h.2.2.1)
 have l3 := nB_len (h.2.2.2.1)
 have l4 := nB_len (h.2.2.2.2)
 simp only [List.length_append, List.length_nil]
 omega
theorem fit_3 {x : CmdV} (hk : x.kind = 3) (hg : goodC x = true) : NR x.from_ ∧ NR x.until_ := by
 have h := (good_is_3 hk hg).1
 try simp only [Bool.and_eq_true, Bool.or_eq_true, decide_eq_true_eq] at h
 exact ⟨(stretch_NR h).1, (stretch_NR h).2⟩
theorem bytes_3 {x : CmdV} (hk : x.kind = 3) (hg : goodC x = true) : (nextS (nextS (nextS (some []) (docN 3)) (docN x.from_)) (docN x.until_)) = some (encT x) := by
 have h := fit_3 hk hg
 have hn : NR (3 : Int) := ⟨by omega, by omega⟩
 unfold encT
 rw [bodyT_3 hk, hk, docN_some hn, docN_some (h.1), docN_some (h.2)]
 simp only [next_some, List.append_assoc, List.append_nil, List.nil_append]
theorem len_3 {x : CmdV} (hk : x.kind = 3) (hg : goodC x = true) : (bodyT x).length ≤ 41000000 := by
 have h := fit_3 hk hg
 rw [bodyT_3 hk]
 have l0 := nB_len (h.1)
 have l1 := nB_len (h.2)
 simp only [List.length_append, List.length_nil]
 omega
theorem fit_4 {x : CmdV} (hk : x.kind = 4) (hg : goodC x = true) : x.state.size ≤ 65536 ∧ x.text.size ≤ 65536 ∧ NR x.from_ ∧ NR x.until_ := by
 have h := (good_is_4 hk hg).1
 try simp only [Bool.and_eq_true, Bool.or_eq_true, decide_eq_true_eq] at h
 exact ⟨(right_size h.1).1, (right_size h.1).2, (stretch_NR h.2).1, (stretch_NR h.2).2⟩
theorem bytes_4 {x : CmdV} (hk : x.kind = 4) (hg : goodC x = true) : (nextS (nextS (nextS (nextS (nextS (some []) (docN 4)) (docS x.state)) (docS x.text)) (docN x.from_)) (docN x.until_)) = some (encT x) := by
 have h := fit_4 hk hg
 have hn : NR (4 : Int) := ⟨by omega, by omega⟩
 unfold encT
 rw [bodyT_4 hk, hk, docN_some hn, docS_some (h.1), docS_some (h.2.1), docN_some (h.2.2.1), docN_some (h.2.2.2)]
 simp only [next_some, List.append_assoc, List.append_nil, List.nil_append]
theorem len_4 {x : CmdV} (hk : x.kind = 4) (hg : goodC x = true) : (bodyT x).length ≤ 41000000 := by
 have h := fit_4 hk hg
 rw [bodyT_4 hk]
 have l0 := sB_len x.state
 have l1 := sB_len x.text
 have l2 := nB_len (h.2.2.1)
 have l3 := nB_len (h.2.2.2)
 simp only [List.length_append, List.length_nil]
 omega
theorem fit_5 {x : CmdV} (hk : x.kind = 5) (hg : goodC x = true) : x.text.size ≤ 65536 ∧ NR x.py ∧ NR x.pi ∧ NR x.num ∧ NR x.den := by
 have h := (good_is_5 hk hg).1
 try simp only [Bool.and_eq_true, Bool.or_eq_true, decide_eq_true_eq] at h
 exact ⟨curr_size h.1, (per_is h.2.1).2.1, (per_is h.2.1).2.2.1, in_NR h.2.2.1 (by omega) (by omega), in_NR h.2.2.2 (by omega) (by omega)⟩
theorem bytes_5 {x : CmdV} (hk : x.kind = 5) (hg : goodC x = true) : (nextS (nextS (nextS (nextS (nextS (nextS (some []) (docN 5)) (docS x.text)) (docN x.py)) (docN x.pi)) (docN x.num)) (docN x.den)) = some (encT x) := by
 have h := fit_5 hk hg
 have hn : NR (5 : Int) := ⟨by omega, by omega⟩
 unfold encT
 rw [bodyT_5 hk, hk, docN_some hn, docS_some (h.1), docN_some (h.2.1), docN_some (h.2.2.1), docN_some (h.2.2.2.1), docN_some (h.2.2.2.2)]
 simp only [next_some, List.append_assoc, List.append_nil, List.nil_append]
theorem len_5 {x : CmdV} (hk : x.kind = 5) (hg : goodC x = true) : (bodyT x).length ≤ 41000000 := by
 have h := fit_5 hk hg
 rw [bodyT_5 hk]
 have l0 := sB_len x.text
 have l1 := nB_len (h.2.1)
 have l2 := nB_len (h.2.2.1)
 have l3 := nB_len (h.2.2.2.1)
 have l4 := nB_len (h.2.2.2.2)
 simp only [List.length_append, List.length_nil]
 omega
theorem fit_6 {x : CmdV} (hk : x.kind = 6) (hg : goodC x = true) : x.text.size ≤ 65536 := by
 have h := (good_is_6 hk hg).1
 try simp only [Bool.and_eq_true, Bool.or_eq_true, decide_eq_true_eq] at h
 exact h
theorem bytes_6 {x : CmdV} (hk : x.kind = 6) (hg : goodC x = true) : (nextS (nextS (some []) (docN 6)) (docS x.text)) = some (encT x) := by
 have h := fit_6 hk hg
 have hn : NR (6 : Int) := ⟨by omega, by omega⟩
 unfold encT
 rw [bodyT_6 hk, hk, docN_some hn, docS_some (h)]
 simp only [next_some, List.append_assoc, List.append_nil, List.nil_append]
theorem len_6 {x : CmdV} (hk : x.kind = 6) (hg : goodC x = true) : (bodyT x).length ≤ 41000000 := by
 have h := fit_6 hk hg
 rw [bodyT_6 hk]
 have l0 := sB_len x.text
 simp only [List.length_append, List.length_nil]
 omega
theorem fit_7 {x : CmdV} (hk : x.kind = 7) (hg : goodC x = true) : NR x.py ∧ NR x.num := by
 have h := (good_is_7 hk hg).1
 try simp only [Bool.and_eq_true, Bool.or_eq_true, decide_eq_true_eq] at h
 exact ⟨(per_is h.2).2.1, in_NR h.1 (by omega) (by omega)⟩
theorem bytes_7 {x : CmdV} (hk : x.kind = 7) (hg : goodC x = true) : (nextS (nextS (nextS (some []) (docN 7)) (docN x.py)) (docN x.num)) = some (encT x) := by
 have h := fit_7 hk hg
 have hn : NR (7 : Int) := ⟨by omega, by omega⟩
 unfold encT
 rw [bodyT_7 hk, hk, docN_some hn, docN_some (h.1), docN_some (h.2)]
 simp only [next_some, List.append_assoc, List.append_nil, List.nil_append]
theorem len_7 {x : CmdV} (hk : x.kind = 7) (hg : goodC x = true) : (bodyT x).length ≤ 41000000 := by
 have h := fit_7 hk hg
 rw [bodyT_7 hk]
 have l0 := nB_len (h.1)
 have l1 := nB_len (h.2)
 simp only [List.length_append, List.length_nil]
 omega
theorem fit_8 {x : CmdV} (hk : x.kind = 8) (hg : goodC x = true) : DF (docOf x) := doc_DF (d := docOf x) (good_is_8 hk hg).1
theorem len_8 {x : CmdV} (hk : x.kind = 8) (hg : goodC x = true) : (bodyT x).length ≤ 41000000 := by rw [bodyT_8 hk]; exact docB_len (fit_8 hk hg)
theorem fit_9 {x : CmdV} (hk : x.kind = 9) (hg : goodC x = true) : NR x.pk ∧ NR x.py ∧ NR x.pi := by
 have h := (good_is_9 hk hg).1
 try simp only [Bool.and_eq_true, Bool.or_eq_true, decide_eq_true_eq] at h
 exact ⟨(per_or h).1, (per_or h).2.1, (per_or h).2.2⟩
theorem bytes_9 {x : CmdV} (hk : x.kind = 9) (hg : goodC x = true) : (nextS (nextS (nextS (nextS (some []) (docN 9)) (docN x.pk)) (docN x.py)) (docN x.pi)) = some (encT x) := by
 have h := fit_9 hk hg
 have hn : NR (9 : Int) := ⟨by omega, by omega⟩
 unfold encT
 rw [bodyT_9 hk, hk, docN_some hn, docN_some (h.1), docN_some (h.2.1), docN_some (h.2.2)]
 simp only [next_some, List.append_assoc, List.append_nil, List.nil_append]
theorem len_9 {x : CmdV} (hk : x.kind = 9) (hg : goodC x = true) : (bodyT x).length ≤ 41000000 := by
 have h := fit_9 hk hg
 rw [bodyT_9 hk]
 have l0 := nB_len (h.1)
 have l1 := nB_len (h.2.1)
 have l2 := nB_len (h.2.2)
 simp only [List.length_append, List.length_nil]
 omega
theorem fit_10 {x : CmdV} (hk : x.kind = 10) (hg : goodC x = true) : NR x.pk ∧ NR x.py ∧ NR x.pi := by
 have h := (good_is_10 hk hg).1
 try simp only [Bool.and_eq_true, Bool.or_eq_true, decide_eq_true_eq] at h
 exact ⟨(per_or h).1, (per_or h).2.1, (per_or h).2.2⟩
theorem bytes_10 {x : CmdV} (hk : x.kind = 10) (hg : goodC x = true) : (nextS (nextS (nextS (nextS (some []) (docN 10)) (docN x.pk)) (docN x.py)) (docN x.pi)) = some (encT x) := by
 have h := fit_10 hk hg
 have hn : NR (10 : Int) := ⟨by omega, by omega⟩
 unfold encT
 rw [bodyT_10 hk, hk, docN_some hn, docN_some (h.1), docN_some (h.2.1), docN_some (h.2.2)]
 simp only [next_some, List.append_assoc, List.append_nil, List.nil_append]
theorem len_10 {x : CmdV} (hk : x.kind = 10) (hg : goodC x = true) : (bodyT x).length ≤ 41000000 := by
 have h := fit_10 hk hg
 rw [bodyT_10 hk]
 have l0 := nB_len (h.1)
 have l1 := nB_len (h.2.1)
 have l2 := nB_len (h.2.2)
 simp only [List.length_append, List.length_nil]
 omega
theorem fit_11 {x : CmdV} (hk : x.kind = 11) (hg : goodC x = true) : NR x.py := by
 have h := (good_is_11 hk hg).1
 try simp only [Bool.and_eq_true, Bool.or_eq_true, decide_eq_true_eq] at h
 exact (per_is h).2.1
theorem bytes_11 {x : CmdV} (hk : x.kind = 11) (hg : goodC x = true) : (nextS (nextS (some []) (docN 11)) (docN x.py)) = some (encT x) := by
 have h := fit_11 hk hg
 have hn : NR (11 : Int) := ⟨by omega, by omega⟩
 unfold encT
 rw [bodyT_11 hk, hk, docN_some hn, docN_some (h)]
 simp only [next_some, List.append_assoc, List.append_nil, List.nil_append]
theorem len_11 {x : CmdV} (hk : x.kind = 11) (hg : goodC x = true) : (bodyT x).length ≤ 41000000 := by
 have h := fit_11 hk hg
 rw [bodyT_11 hk]
 have l0 := nB_len (h)
 simp only [List.length_append, List.length_nil]
 omega
theorem kind_in {x : CmdV} (hg : goodC x = true) : 1 ≤ x.kind ∧ x.kind ≤ 11 := by
 by_cases h : x.kind < 1 ∨ 11 < x.kind
 · rw [goodC_O h] at hg; cases hg
 · omega
theorem encT_len {x : CmdV} (hg : goodC x = true) : (encT x).length ≤ 42000000 := by
 have hk := kind_in hg
 have hb : (bodyT x).length ≤ 41000000 := by
  by_cases h1 : x.kind = 1
  · exact len_1 h1 hg
  by_cases h2 : x.kind = 2
  · exact len_2 h2 hg
  by_cases h3 : x.kind = 3
  · exact len_3 h3 hg
  by_cases h4 : x.kind = 4
  · exact len_4 h4 hg
  by_cases h5 : x.kind = 5
  · exact len_5 h5 hg
  by_cases h6 : x.kind = 6
  · exact len_6 h6 hg
  by_cases h7 : x.kind = 7
  · exact len_7 h7 hg
  by_cases h8 : x.kind = 8
  · exact len_8 h8 hg
  by_cases h9 : x.kind = 9
  · exact len_9 h9 hg
  by_cases h10 : x.kind = 10
  · exact len_10 h10 hg
  by_cases h11 : x.kind = 11
  · exact len_11 h11 hg
  omega
 have := nB_len (n := x.kind) ⟨by omega, by omega⟩
 unfold encT
 rw [List.length_append]
 omega
end Go.Proofs.YtmjjenemokojjaaGreat

namespace Go.Proofs.YtmjjenemokojjaaGreat
open Go.RowKit Go.ChangeShapes
set_option maxRecDepth 100000
set_option linter.unusedSimpArgs false
set_option linter.unusedVariables false

theorem numS_bad {s : Bool × Text} (h : s.1 = true) : (numS s).1 = true := by unfold numS; cases numP s.2 <;> simp [h]
theorem textS_bad {s : Bool × Text} (h : s.1 = true) : (textS s).1 = true := by unfold textS; cases textP s.2 <;> simp [h]
theorem flagS_bad {s : Bool × Text} (h : s.1 = true) : (flagS s).1 = true := by unfold flagS; cases flagP s.2 <;> simp [h]
theorem lineS_bad {s : Bool × Text} (h : s.1 = true) : (lineS s).1 = true := flagS_bad (numS_bad (flagS_bad (numS_bad (textS_bad (textS_bad (textS_bad (numS_bad (numS_bad h))))))))
theorem bad_stays {s : Bool × Text} {k : Nat} (h : (linesR k s).2.1 = true) : ∀ n, (linesR (k + n) s).2.1 = true
 | 0 => h
 | n + 1 => lineS_bad (bad_stays h n)
theorem doc_exit {s : Bool × Text} {k : Nat} {m : Int} (hm : numV (headS s) = m) (hk : k ≤ m.toNat) (hno : ¬ ((k : Int) < m ∧ (linesR k (numS (headS s))).2.1 = false ∧ (k : Int) ≤ 64)) : m ≤ 64 → (docR s).2.2.1 = false → (linesR k (numS (headS s))).1 = (docR s).2.1 := by
 intro h64 hb
 have e : docR s = (headV s, (linesR (numV (headS s)).toNat (numS (headS s))).1, (linesR (numV (headS s)).toNat (numS (headS s))).2) := by unfold docR; rw [if_neg (by omega)]
 rw [e, hm] at hb ⊢
 by_cases hkm : k = m.toNat
 · rw [hkm]
 · refine absurd ⟨by omega, ?_, by omega⟩ hno
   cases hb2 : (linesR k (numS (headS s))).2.1 with
   | false => rfl
   | true =>
     have h := bad_stays hb2 (m.toNat - k)
     rw [show k + (m.toNat - k) = m.toNat by omega] at h
     exact absurd (hb.symm.trans h) (by decide)
theorem rm_next {w0 W : World} {g b k : Nat} {s sk : Bool × Text} {hd : HeadV} {L : List LineV} {v v' : Value} (h1 : (linesR k s).1 = L) (h2 : sk = (linesR k s).2) (h : RM DR w0 W g (lineS sk) [(b, docC hd v, 26)] v' (L ++ [lineV sk])) : RM DR w0 W g (linesR (k + 1) s).2 [(b, docC hd v, 26)] v' (linesR (k + 1) s).1 := by
 subst h1 h2; exact h
def DDoc (w : World) (g : Nat) (s : Bool × Text) (e : Ending) (w1 : World) : Prop :=
 ∃ A c L, e = .returned (.agg (docC (headV s) (.slice A L.length c))) ∧ OwnLineV w1 w.heap.size (.slice A L.length c) L ∧ (∃ s2, DR w1 g s2) ∧ Only w w1 g ∧ L.length ≤ 65 ∧ (∃ k, L = (linesR k (numS (headS s))).1) ∧ (numV (headS s) ≤ 64 → (docR s).2.2.1 = false → L = (docR s).2.1)
set_option maxHeartbeats 16000000 in
theorem dread_doc (g : Nat) (s : Bool × Text) (w : World) (hr : DR w g s) : Calls Tryz.prog 79 #[.pointer (some ⟨g, 0, none⟩)] w fun e w1 => DDoc w g s e w1 := by
 have hgw : g < w.heap.size := hr.lt
 have HC := Lib.hid (RM.start DR.law (hr.on (below_alloc w (.cells #[.string ⟨#[]⟩, .bool false, .bool false, .string ⟨#[]⟩, .int .i64 0, .string ⟨#[]⟩, .string ⟨#[]⟩, .string ⟨#[]⟩, .slice none 0 0] 26))) (Nat.lt_of_lt_of_le hgw (below_alloc w (.cells #[.string ⟨#[]⟩, .bool false, .bool false, .string ⟨#[]⟩, .int .i64 0, .string ⟨#[]⟩, .string ⟨#[]⟩, .string ⟨#[]⟩, .slice none 0 0] 26)).size))
 have HZ := Lib.hid (heap_alloc_new w (.cells #[.string ⟨#[]⟩, .bool false, .bool false, .string ⟨#[]⟩, .int .i64 0, .string ⟨#[]⟩, .string ⟨#[]⟩, .string ⟨#[]⟩, .slice none 0 0] 26))
 have HP : Hid (Only w (w.alloc (.cells #[.string ⟨#[]⟩, .bool false, .bool false, .string ⟨#[]⟩, .int .i64 0, .string ⟨#[]⟩, .string ⟨#[]⟩, .string ⟨#[]⟩, .slice none 0 0] 26)) g) := Lib.hid (Only.of_below (below_alloc w (.cells #[.string ⟨#[]⟩, .bool false, .bool false, .string ⟨#[]⟩, .int .i64 0, .string ⟨#[]⟩, .string ⟨#[]⟩, .string ⟨#[]⟩, .slice none 0 0] 26)))
 have HG : Hid (g < w.heap.size ∧ w.heap.size < (w.alloc (.cells #[.string ⟨#[]⟩, .bool false, .bool false, .string ⟨#[]⟩, .int .i64 0, .string ⟨#[]⟩, .string ⟨#[]⟩, .string ⟨#[]⟩, .slice none 0 0] 26)).heap.size) := Lib.hid ⟨hgw, by simp⟩
 clear hr hgw
 go_enter Tryz.func79, Tryz.ntmps79
 go_upto_region 1 with fail
 generalize World.alloc w _ = w0 at HC HZ HP HG ⊢
 go_wp2_with (go_at_call 78; refine (HC.out.dtext).mono ?_; rintro e w1 ⟨rfl, hs⟩; (have HC1 := Lib.hid hs); clear hs HC; refine Stop.out ?_)
 unfold Stop
 have HC := Lib.hid (HC1.out.alloc #[.string (textV s), .bool false, .bool false, .string ⟨#[]⟩, .int .i64 0, .string ⟨#[]⟩, .string ⟨#[]⟩, .string ⟨#[]⟩, .slice none 0 0] 26)
 clear HC1
 go_wp2_with (go_at_call 102; refine (HC.out.dflag).mono ?_; rintro e wn ⟨rfl, hs⟩; (have HN := Lib.hid hs); clear hs HC; (have HC := HN); clear HN; refine Stop.out ?_)
 unfold Stop
 generalize w1.heap.size = bb at HC ⊢
 repeat (go_wp2_with (first
  | (go_at_call 77; refine (HC.out.dnum).mono ?_; rintro e wn ⟨rfl, hs⟩; (have HN := Lib.hid hs); clear hs HC; (try clear y0); (have HC := HN); clear HN; refine Stop.out ?_)
  | (go_at_call 78; refine (HC.out.dtext).mono ?_; rintro e wn ⟨rfl, hs⟩; (have HN := Lib.hid hs); clear hs HC; (try clear y0); (have HC := HN); clear HN; refine Stop.out ?_)
  | (go_at_call 102; refine (HC.out.dflag).mono ?_; rintro e wn ⟨rfl, hs⟩; (have HN := Lib.hid hs); clear hs HC; (try clear y0); (have HC := HN); clear HN; refine Stop.out ?_)
  | ((with_reducible apply RM.storeI HC.out); (case ho => rfl); (case hy => rfl); (case hgd => rfl); (case hx => rfl); (case hsz => kernel_rfl); (case hi => kernel_rfl); intro wn hs; (have HN := Lib.hid hs); clear hs HC; (have HC := HN); clear HN; refine Stop.out ?_)
  | ((with_reducible apply RM.storeS HC.out); (case ho => rfl); (case hy => rfl); (case hgd => rfl); (case hx => rfl); (case hsz => kernel_rfl); (case hi => kernel_rfl); intro wn hs; (have HN := Lib.hid hs); clear hs HC; (have HC := HN); clear HN; refine Stop.out ?_)
  | ((with_reducible apply RM.storeB HC.out); (case ho => rfl); (case hy => rfl); (case hgd => rfl); (case hx => rfl); (case hsz => kernel_rfl); (case hi => kernel_rfl); intro wn hs; (have HN := Lib.hid hs); clear hs HC; (have HC := HN); clear HN; refine Stop.out ?_)
  | ((with_reducible apply RM.storeA HC.out); (case ho => rfl); (case hy => rfl); (case hgd => rfl); (case hx => rfl); (case hn => rfl); (case hsz => kernel_rfl); (case h1 => rfl); (case hi => kernel_rfl); intro wn hs; (have HN := Lib.hid hs); clear hs HC; (have HC := HN); clear HN; refine Stop.out ?_)); unfold Stop)
 have HC1 : Hid (RM DR w0 wn g (numS (headS s)) [(bb, docC (headV s) (.slice none 0 0), 26)] (.slice none 0 0) []) := HC
 clear HC
 generalize hm : numV (textS (textS (textS (numS (textS (flagS (flagS (textS s)))))))) = m
 have HM : Hid (numV (headS s) = m) := Lib.hid hm
 generalize hs9 : numS (headS s) = s9 at HC1
 have HS9 : Hid (numS (headS s) = s9) := Lib.hid hs9
 clear hm hs9
 go_wp2
 go_loopw [5] (fun i wr => ∃ (k : Nat), k ≤ m.toNat ∧ k ≤ 65 ∧ i = .int .i64 k ∧ ∃ A c, Hid (RM DR w0 wr g (linesR k s9).2 [(bb, docC (headV s) (.slice A k c), 26)] (.slice A k c) (linesR k s9).1)) (fun i _ => 65 - (intOf i).toNat)
 case atStart => exact ⟨0, Nat.zero_le _, Nat.zero_le _, rfl, none, 0, HC1⟩
 case round =>
  obtain ⟨k, hkm, hk65, rfl, A, c, HC⟩ := hrel
  have HLen := Lib.hid (linesR_len k s9)
  generalize hsk : (linesR k s9).2 = sk at HC
  have HQ : Hid (sk = (linesR k s9).2) := Lib.hid hsk.symm
  clear hsk
  generalize hLk : (linesR k s9).1 = Lk at HC HLen
  have HQL : Hid ((linesR k s9).1 = Lk) := Lib.hid hLk
  clear hLk HC1
  have y0 := (DR.bad_cell HC.out.rs)
  by_cases hgo : (k : Int) < m ∧ sk.1 = false ∧ (k : Int) ≤ 64
  · obtain ⟨hlt, hb, h64⟩ := hgo
    rw [hb] at y0
    go_wp2_with (go_at_call 77; refine (HC.out.dnum).mono ?_; rintro e w1 ⟨rfl, hs⟩; (have HC1 := Lib.hid hs); clear hs HC y0; refine Stop.out ?_)
    unfold Stop
    have HC := Lib.hid (HC1.out.alloc #[.int .i64 (numV sk), .int .i64 0, .string ⟨#[]⟩, .string ⟨#[]⟩, .string ⟨#[]⟩, .int .i64 0, .bool false, .int .i64 0, .bool false] 30)
    clear HC1
    go_wp2_with (go_at_call 77; refine (HC.out.dnum).mono ?_; rintro e wn ⟨rfl, hs⟩; (have HN := Lib.hid hs); clear hs HC; (have HC := HN); clear HN; refine Stop.out ?_)
    unfold Stop
    generalize w1.heap.size = ll at HC ⊢
    repeat (go_wp2_with (first
  | (go_at_call 77; refine (HC.out.dnum).mono ?_; rintro e wn ⟨rfl, hs⟩; (have HN := Lib.hid hs); clear hs HC; (try clear y0); (have HC := HN); clear HN; refine Stop.out ?_)
  | (go_at_call 78; refine (HC.out.dtext).mono ?_; rintro e wn ⟨rfl, hs⟩; (have HN := Lib.hid hs); clear hs HC; (try clear y0); (have HC := HN); clear HN; refine Stop.out ?_)
  | (go_at_call 102; refine (HC.out.dflag).mono ?_; rintro e wn ⟨rfl, hs⟩; (have HN := Lib.hid hs); clear hs HC; (try clear y0); (have HC := HN); clear HN; refine Stop.out ?_)
  | ((with_reducible apply RM.storeI HC.out); (case ho => rfl); (case hy => rfl); (case hgd => rfl); (case hx => rfl); (case hsz => kernel_rfl); (case hi => kernel_rfl); intro wn hs; (have HN := Lib.hid hs); clear hs HC; (have HC := HN); clear HN; refine Stop.out ?_)
  | ((with_reducible apply RM.storeS HC.out); (case ho => rfl); (case hy => rfl); (case hgd => rfl); (case hx => rfl); (case hsz => kernel_rfl); (case hi => kernel_rfl); intro wn hs; (have HN := Lib.hid hs); clear hs HC; (have HC := HN); clear HN; refine Stop.out ?_)
  | ((with_reducible apply RM.storeB HC.out); (case ho => rfl); (case hy => rfl); (case hgd => rfl); (case hx => rfl); (case hsz => kernel_rfl); (case hi => kernel_rfl); intro wn hs; (have HN := Lib.hid hs); clear hs HC; (have HC := HN); clear HN; refine Stop.out ?_)
  | ((with_reducible apply RM.storeA HC.out); (case ho => rfl); (case hy => rfl); (case hgd => rfl); (case hx => rfl); (case hn => rfl); (case hsz => kernel_rfl); (case h1 => rfl); (case hi => kernel_rfl); intro wn hs; (have HN := Lib.hid hs); clear hs HC; (have HC := HN); clear HN; refine Stop.out ?_)); unfold Stop)
    have HC2 : Hid (RM DR w0 wn g (lineS sk) [(ll, #[.int .i64 (lineV sk).1, .int .i64 (lineV sk).2.1, .string (lineV sk).2.2.1, .string (lineV sk).2.2.2.1, .string (lineV sk).2.2.2.2.1, .int .i64 (lineV sk).2.2.2.2.2.1, .bool (lineV sk).2.2.2.2.2.2.1, .int .i64 (lineV sk).2.2.2.2.2.2.2.1, .bool (lineV sk).2.2.2.2.2.2.2.2], 30), (bb, docC (headV s) (.slice A k c), 26)] (.slice A k c) Lk) := HC
    clear HC
    obtain ⟨y0, y1, y2, y3, y4, y5, y6, y7, y8⟩ := cellsLineV HC2.out.head
    have z8 := cell_of_row _ bb 8 _ _ _ (HC2.out.drop.head)
    simp only [docC, List.getElem?_toArray, List.getElem?_cons_succ, List.getElem?_cons_zero] at z8
    have HC3 := Lib.hid (HC2.out.drop.on (below_alloc wn (.cells #[.int .i64 (lineV sk).1, .int .i64 (lineV sk).2.1, .string (lineV sk).2.2.1, .string (lineV sk).2.2.2.1, .string (lineV sk).2.2.2.2.1, .int .i64 (lineV sk).2.2.2.2.2.1, .bool (lineV sk).2.2.2.2.2.2.1, .int .i64 (lineV sk).2.2.2.2.2.2.2.1, .bool (lineV sk).2.2.2.2.2.2.2.2] 30)))
    have HM1 := Lib.hid (boxLineV (p := lineV sk) (heap_alloc_new wn (.cells #[.int .i64 (lineV sk).1, .int .i64 (lineV sk).2.1, .string (lineV sk).2.2.1, .string (lineV sk).2.2.2.1, .string (lineV sk).2.2.2.2.1, .int .i64 (lineV sk).2.2.2.2.2.1, .bool (lineV sk).2.2.2.2.2.2.1, .int .i64 (lineV sk).2.2.2.2.2.2.2.1, .bool (lineV sk).2.2.2.2.2.2.2.2] 30)))
    clear HC2
    go_wp2_with ((with_reducible apply wpList_append_rm HC3.out (l := lineV sk) (hm := HM1.out) (k := k) (hk := HLen.out)); (case hgd => rfl); (case ho => rfl); (case hty => rfl); (case hs => rfl); (case hx => rfl); (case hl => omega); intro A1 c1 w12 hs hbx; (have HC4 := Lib.hid hs); (have HBX := Lib.hid hbx); clear hs hbx y0 y1 y2 y3 y4 y5 y6 y7 y8 z8; refine Stop.out ?_)
    unfold Stop
    have y8 := cell_of_row _ bb 8 _ _ _ HBX.out
    have z8 := frozen_of_row _ bb 8 _ _ HBX.out
    simp only [docC, List.getElem?_toArray, List.getElem?_cons_succ, List.getElem?_cons_zero] at y8
    have HF := Lib.hid (rm_next HQL.out HQ.out HC4.out)
    go_wp2
    go_roundw
    case rel => exact ⟨k + 1, by omega, by omega, by go_num, A1, c1, HF⟩
    case measure => simp [intOf]; omega
  · have HNo : Hid (¬ ((k : Int) < m ∧ (linesR k s9).2.1 = false ∧ (k : Int) ≤ 64)) := Lib.hid (by rw [← HQ.out]; exact hgo)
    have h3 : ¬ (k : Int) < m ∨ (k : Int) < m ∧ sk.1 = true ∨ (k : Int) < m ∧ sk.1 = false ∧ ¬ (k : Int) ≤ 64 := by
     by_cases h1 : (k : Int) < m
     · cases hb : sk.1 with
       | true => exact .inr (.inl ⟨h1, rfl⟩)
       | false => exact .inr (.inr ⟨h1, rfl, fun h6 => hgo ⟨h1, hb, h6⟩⟩)
     · exact .inl h1
    clear hgo
    rcases h3 with h | ⟨h, hb⟩ | ⟨h, hb, h64⟩
    all_goals (
     try rw [hb] at y0
     go_wp2_with ((with_reducible apply RM.load HC.out Tryz.underlying26); (case ho => rfl); (case hgd => rfl); (case hx => rfl); (case hsz => exact doc_info _ _); refine Stop.out ?_)
     unfold Stop
     have HZ9 := Lib.hid ((HC.out.at_ w.heap.size HG.out.2 (Nat.ne_of_gt HG.out.1)).trans HZ.out)
     go_wp2_with ((with_reducible apply wpList_store_row (ty := 26) (g := w.heap.size) (t := 26) (old := #[.string ⟨#[]⟩, .bool false, .bool false, .string ⟨#[]⟩, .int .i64 0, .string ⟨#[]⟩, .string ⟨#[]⟩, .string ⟨#[]⟩, .slice none 0 0]) (hg := HZ9.out)); (case hgd => rfl); (case ho => rfl); (case hx => rfl); (case hy => rfl); (case hi => exact doc_info _ _); (case hold => rfl); (case h1 => exact doc_one _); refine Stop.out ?_)
     unfold Stop
     have HP9 := Lib.hid (setRow_heap _ w.heap.size _ (docC (headV s) (.slice A k c)) _ _ HZ9.out)
     go_wp2
     refine bodyPost_ret (v := .agg (docC (headV s) (.slice A k c))) (results_cell_row Tryz.results79 _ _ w.heap.size 26 (docC (headV s) (.slice A k c)) (0, 0) _ rfl HP9.out Tryz.underlying26 rfl (doc_info _ _)) rfl ?_
     have hS := only_setRow wr w.heap.size (docC (headV s) (.slice A k c))
     have hL := HLen.out
     have hO := HP.out.trans HC.out.only
     have HO9 : Only w (World.setRow wr w.heap.size (docC (headV s) (.slice A k c))) g := ⟨hS.os.trans hO.os, hS.tape.trans hO.tape, hS.output.trans hO.output, Nat.le_trans hO.size hS.size, fun k hk hn => (hS.block k (Nat.lt_of_lt_of_le hk hO.size) (by omega)).trans (hO.block k hk hn)⟩
     refine ⟨A, c, Lk, by rw [hL], ?_, ⟨sk, DR.far HC.out.rs hS HG.out.1⟩, HO9, by omega, ⟨k, by rw [HS9.out]; exact HQL.out.symm⟩, fun h1 h2 => ?_⟩
     · rw [hL]
       refine OwnLineV.less (B := w0.heap.size) (World.ownsRow.kept (row := some w.heap.size) HC.out.own ⟨hS.os, hS.tape, hS.output, hS.size, fun k hk hn => hS.block k hk (fun e => hn (by rw [e]))⟩ (.inr fun e => ?_)) (Nat.le_of_lt HG.out.2)
       have := (HC.out.own.block _ e).1
       have := HG.out.2
       omega
     · rw [← HQL.out, ← HS9.out]
       exact doc_exit HM.out hkm (by rw [HS9.out]; exact HNo.out) (by rw [← HM.out]; exact h1) h2)
end Go.Proofs.YtmjjenemokojjaaGreat
