/- A document, read: the walk. -/
import Derived.Test.YtmjjenemokojjaaGreatD12
import Derived.Test.YtmjjenemokojjaaGreatD11
import Derived.WalkMore
import Derived.Laws.Rows
import Derived.Laws.Tables
namespace Go.Proofs.YtmjjenemokojjaaGreat
open Go.RowKit Go.ChangeShapes
set_option maxRecDepth 100000
set_option linter.unusedSimpArgs false
set_option linter.unusedVariables false

theorem doc_info (hd : HeadV) (v : Value) : (Tryz.prog.info? 26).map (·.size) = some (docC hd v).size := by
 show (Tryz.prog.info? 26).map (·.size) = some 9
 kernel_rfl
theorem doc_one (hd : HeadV) {A : Option Addr} {n c : Nat} : (docC hd (.slice A n c)).all (·.oneCell') = true := by simp [docC, Value.oneCell']
theorem RL.start {w0 w : World} {g : Nat} {s : Bool × Text} (h : RS w0 w g s) (hd : HeadV) : RL w0 (w.alloc (.cells (docC hd (.slice none 0 0)) 26)) g s w.heap.size hd [] (.slice none 0 0) :=
 ⟨h.on (below_alloc _ _), heap_alloc_new w _, h.2.1.size, World.ownsRow_nil _ _ _ 9, by simp [Value.ownBlock]⟩
theorem rdLines_next {w0 W : World} {g b k : Nat} {s sk : Bool × Text} {hd : HeadV} {L : List LineV} {v : Value} (h1 : (linesR k s).1 = L) (h2 : sk = (linesR k s).2) (h : RL w0 W g (lineS sk) b hd (L ++ [lineV sk]) v) : RL w0 W g (linesR (k + 1) s).2 b hd (linesR (k + 1) s).1 v := by
 subst h1 h2; exact h
theorem RL.at_ {w0 w : World} {g b : Nat} {s hd L v} (h : RL w0 w g s b hd L v) (k : Nat) (hk : k < w0.heap.size) (hn : k ≠ g) : w.heap[k]? = w0.heap[k]? := h.rs.2.1.block k hk hn
noncomputable def rdLine (s : Bool × Text) : Obj := .cells #[.int .i64 (numV s), .int .i64 (numV (numS s)), .string (textV (numS (numS s))), .string (textV (textS (numS (numS s)))), .string (textV (textS (textS (numS (numS s))))), .int .i64 (numV (textS (textS (textS (numS (numS s)))))), .bool (flagV (numS (textS (textS (textS (numS (numS s))))))), .int .i64 (numV (flagS (numS (textS (textS (textS (numS (numS s)))))))), .bool (flagV (numS (flagS (numS (textS (textS (textS (numS (numS s)))))))))] 30
set_option maxHeartbeats 4000000 in
theorem read_doc (g : Nat) (s : Bool × Text) (w : World) (hr : Rdr w g s.1 s.2) : Calls Tryz.prog 76 #[.pointer (some ⟨g, 0, none⟩)] w fun e w1 => ReadDoc w g s e w1 := by
 have HS0 := Lib.hid (RS.start (hr.on (below_alloc w (.cells #[.string ⟨#[]⟩, .bool false, .bool false, .string ⟨#[]⟩, .int .i64 0, .string ⟨#[]⟩, .string ⟨#[]⟩, .string ⟨#[]⟩, .slice none 0 0] 26))))
 have HZ := Lib.hid (heap_alloc_new w (.cells #[.string ⟨#[]⟩, .bool false, .bool false, .string ⟨#[]⟩, .int .i64 0, .string ⟨#[]⟩, .string ⟨#[]⟩, .string ⟨#[]⟩, .slice none 0 0] 26))
 have hgw : g < w.heap.size := heapLt hr.choose_spec.choose_spec.1
 have HP : Hid (∀ w1 s1, RS (w.alloc (.cells #[.string ⟨#[]⟩, .bool false, .bool false, .string ⟨#[]⟩, .int .i64 0, .string ⟨#[]⟩, .string ⟨#[]⟩, .string ⟨#[]⟩, .slice none 0 0] 26)) w1 g s1 → RS w w1 g s1) := Lib.hid (fun w1 s1 h => ⟨h.1, (Only.of_below (below_alloc w (.cells #[.string ⟨#[]⟩, .bool false, .bool false, .string ⟨#[]⟩, .int .i64 0, .string ⟨#[]⟩, .string ⟨#[]⟩, .string ⟨#[]⟩, .slice none 0 0] 26))).trans h.2.1, hgw⟩)
 have HG : Hid (g < w.heap.size ∧ w.heap.size < (w.alloc (.cells #[.string ⟨#[]⟩, .bool false, .bool false, .string ⟨#[]⟩, .int .i64 0, .string ⟨#[]⟩, .string ⟨#[]⟩, .string ⟨#[]⟩, .slice none 0 0] 26)).heap.size) := Lib.hid ⟨hgw, by simp⟩
 have hmf : ∀ (fn : Fn) (first cap : Array Value) (w : World), (Instr.makeFunc fn first cap).run Tryz.prog w = .ok (.func fn first cap) w := fun _ _ _ _ => rfl
 clear hr hgw
 go_enter Tryz.func76, Tryz.ntmps76
 go_upto_region 2 with fail
 generalize World.alloc w _ = w0 at HS0 HZ HP HG ⊢
 go_wp2_with (go_at_call 74; refine (HS0.out.text).mono ?_; rintro e w1 ⟨rfl, hs, ho⟩; have HS1 := Lib.hid hs; clear hs ho; refine Stop.out ?_)
 unfold Stop
 go_wp2_with (go_at_call 101; refine (HS1.out.flag).mono ?_; rintro e w2 ⟨rfl, hs, ho⟩; have HS2 := Lib.hid hs; clear hs ho; refine Stop.out ?_)
 unfold Stop
 go_wp2_with (go_at_call 101; refine (HS2.out.flag).mono ?_; rintro e w3 ⟨rfl, hs, ho⟩; have HS3 := Lib.hid hs; clear hs ho; refine Stop.out ?_)
 unfold Stop
 go_wp2_with (go_at_call 74; refine (HS3.out.text).mono ?_; rintro e w4 ⟨rfl, hs, ho⟩; have HS4 := Lib.hid hs; clear hs ho; refine Stop.out ?_)
 unfold Stop
 go_wp2_with (go_at_call 73; refine (HS4.out.num).mono ?_; rintro e w5 ⟨rfl, hs, ho⟩; have HS5 := Lib.hid hs; clear hs ho; refine Stop.out ?_)
 unfold Stop
 go_wp2_with (go_at_call 74; refine (HS5.out.text).mono ?_; rintro e w6 ⟨rfl, hs, ho⟩; have HS6 := Lib.hid hs; clear hs ho; refine Stop.out ?_)
 unfold Stop
 go_wp2_with (go_at_call 74; refine (HS6.out.text).mono ?_; rintro e w7 ⟨rfl, hs, ho⟩; have HS7 := Lib.hid hs; clear hs ho; refine Stop.out ?_)
 unfold Stop
 go_wp2_with (go_at_call 74; refine (HS7.out.text).mono ?_; rintro e w8 ⟨rfl, hs, ho⟩; have HS8 := Lib.hid hs; clear hs ho; refine Stop.out ?_)
 unfold Stop
 have HL0 := Lib.hid (RL.start HS8.out (headV s))
 go_wp2_with (go_at_call 73; refine (HL0.out.num).mono ?_; rintro e w9 ⟨rfl, hs⟩; have HL9 := Lib.hid hs; clear hs; refine Stop.out ?_)
 unfold Stop
 clear HS0 HS1 HS2 HS3 HS4 HS5 HS6 HS7 HL0
 generalize w8.heap.size = bb at HL9 HS8 ⊢
 generalize hm : numV ((textS (textS (textS (numS (textS (flagS (flagS (textS s))))))))) = m
 have HM0 : Hid (numV (headS s) = m) := Lib.hid hm
 generalize hs9 : numS ((textS (textS (textS (numS (textS (flagS (flagS (textS s))))))))) = s9 at HL9
 have HS9 : Hid (numS (headS s) = s9) := Lib.hid hs9
 clear hm hs9 HS8
 have HB : Hid (w0.heap.size ≤ bb) := Lib.hid HL9.out.far
 by_cases hm64 : 64 < m
 · have HZ9 := Lib.hid ((HL9.out.at_ w.heap.size HG.out.2 (Nat.ne_of_gt HG.out.1)).trans HZ.out)
   go_wp2_with ((with_reducible refine wpList_store_row (o := ⟨none, _, _, _, _, _⟩) ?b1 26 (.tmp 2) (.tmp 35) ?b2 w.heap.size (docC noHead (.slice none 0 0)) ?b3 ?b4 26 #[.string ⟨#[]⟩, .bool false, .bool false, .string ⟨#[]⟩, .int .i64 0, .string ⟨#[]⟩, .string ⟨#[]⟩, .string ⟨#[]⟩, .slice none 0 0] HZ9.out ?b5 ?b6 ?b7 ?_); (case b1 => rfl); (case b2 => rfl); (case b3 => rfl); (case b4 => rfl); (case b5 => exact doc_info _ _); (case b6 => rfl); (case b7 => exact doc_one _); refine Stop.out ?_)
   unfold Stop
   have HZe := Lib.hid (setRow_heap _ w.heap.size _ (docC noHead (.slice none 0 0)) _ _ HZ9.out)
   go_wp2
   refine bodyPost_ret (v := .agg (docC noHead (.slice none 0 0))) (results_cell_row Tryz.results76 _ _ w.heap.size 26 (docC noHead (.slice none 0 0)) (0, 0) _ rfl HZe.out Tryz.underlying26 rfl (doc_info _ _)) rfl ?_
   have e1 : docR s = (noHead, [], numS (headS s)) := by unfold docR; rw [if_pos (by rw [HM0.out]; exact hm64)]
   unfold ReadDoc
   rw [e1]
   refine ⟨none, 0, rfl, World.ownsRow_nil _ _ _ 9, ?_⟩
   rw [HS9.out]
   exact (HP.out _ _ HL9.out.rs).far (only_setRow _ _ _) (Nat.le_refl _)
 · go_wp2
   go_loopw [37] (fun i wr => ∃ (k : Nat), k ≤ m.toNat ∧ i = .int .i64 k ∧ ∃ A c, Hid (RL w0 wr g (linesR k s9).2 bb (headV s) (linesR k s9).1 (.slice A k c))) (fun i _ => m.toNat - (intOf i).toNat)
   case atStart => exact ⟨0, Nat.zero_le _, rfl, none, 0, HL9⟩
   case round =>
    obtain ⟨k, hk, rfl, A, c, HL0⟩ := hrel
    by_cases hlt : (k : Int) < m
    · have HLen := Lib.hid (linesR_len k s9)
      generalize hsk : (linesR k s9).2 = sk at HL0
      have HQ : Hid (sk = (linesR k s9).2) := Lib.hid hsk.symm
      clear hsk
      generalize hLk : (linesR k s9).1 = Lk at HL0 HLen
      have HQL : Hid ((linesR k s9).1 = Lk) := Lib.hid hLk
      clear hLk
      go_wp2
      have HLd := Lib.hid HL0.out.drew
      refine wp_region_held_drew (S := fun _ => True) (by kernel_rfl) trivial ?_
      intro hHeld
      clear HL0
      generalize World.drew _ = wd at HLd hHeld ⊢
      have HL0 := HLd
      clear HLd
      (refine takeP (i := 0) ?_ rfl (.inl ⟨by rfl, ?_⟩) ?_; rotate_left; (focus ((intro wS hSw); (try dsimp only at hSw); skip; go_simp; (try with_reducible rfl); done)); (try simp only [Act.put, pA, pB, pC]))
      (refine takeP (i := 2) ?_ rfl (.inl ⟨by rfl, ?_⟩) ?_; rotate_left; (focus ((intro wS hSw); (try dsimp only at hSw); skip; go_simp; (try with_reducible rfl); done)); (try simp only [Act.put, pA, pB, pC]))
      (refine takeP (i := 4) ?_ rfl (.inl ⟨by rfl, ?_⟩) ?_; rotate_left; (focus ((intro wS hSw); (try dsimp only at hSw); skip; go_simp; (try with_reducible rfl); done)); (try simp only [Act.put, pA, pB, pC]))
      (refine takeP (i := 6) ?_ rfl (.inl ⟨by rfl, ?_⟩) ?_; rotate_left; (focus ((intro wS hSw); (try dsimp only at hSw); skip; go_simp; (try with_reducible rfl); done)); (try simp only [Act.put, pA, pB, pC]))
      (refine takeP (i := 8) ?_ rfl (.inl ⟨by rfl, ?_⟩) ?_; rotate_left; (focus ((intro wS hSw); (try dsimp only at hSw); skip; go_simp; (try with_reducible rfl); done)); (try simp only [Act.put, pA, pB, pC]))
      (refine takeP (i := 10) ?_ rfl (.inl ⟨by rfl, ?_⟩) ?_; rotate_left; (focus ((intro wS hSw); (try dsimp only at hSw); skip; go_simp; (try with_reducible rfl); done)); (try simp only [Act.put, pA, pB, pC]))
      (refine takeP (i := 12) ?_ rfl (.inl ⟨by rfl, ?_⟩) ?_; rotate_left; (focus ((intro wS hSw); (try dsimp only at hSw); skip; go_simp; (try with_reducible rfl); done)); (try simp only [Act.put, pA, pB, pC]))
      (refine takeP (i := 14) ?_ rfl (.inl ⟨by rfl, ?_⟩) ?_; rotate_left; (focus ((intro wS hSw); (try dsimp only at hSw); skip; go_simp; (try with_reducible rfl); done)); (try simp only [Act.put, pA, pB, pC]))
      (refine takeP (i := 16) ?_ rfl (.inl ⟨by rfl, ?_⟩) ?_; rotate_left; (focus ((intro wS hSw); (try dsimp only at hSw); skip; go_simp; (try with_reducible rfl); done)); (try simp only [Act.put, pA, pB, pC]))
      (refine takeP (i := 18) ?_ rfl (.inl ⟨by rfl, ?_⟩) ?_; rotate_left; (focus ((intro wS hSw); (try dsimp only at hSw); skip; go_simp; (try with_reducible rfl); done)); (try simp only [Act.put, pA, pB, pC]))
      repeat' (first
       | (
        have HLe := HLd
        clear HLe
        first
        | ((with_reducible have HQ1 : Hid (RL w0 _ g sk bb _ Lk _) := HL0); clear HQ1; refine aloneH (i := 3) rfl (by kernel_rfl) (fun K hK => ?_))
        | ((with_reducible have HQ1 : Hid (RL w0 _ g (numS sk) bb _ Lk _) := HL0); clear HQ1; refine aloneH (i := 5) rfl (by kernel_rfl) (fun K hK => ?_))
        | ((with_reducible have HQ1 : Hid (RL w0 _ g (numS (numS sk)) bb _ Lk _) := HL0); clear HQ1; refine aloneH (i := 7) rfl (by kernel_rfl) (fun K hK => ?_))
        | ((with_reducible have HQ1 : Hid (RL w0 _ g (textS (numS (numS sk))) bb _ Lk _) := HL0); clear HQ1; refine aloneH (i := 9) rfl (by kernel_rfl) (fun K hK => ?_))
        | ((with_reducible have HQ1 : Hid (RL w0 _ g (textS (textS (numS (numS sk)))) bb _ Lk _) := HL0); clear HQ1; refine aloneH (i := 11) rfl (by kernel_rfl) (fun K hK => ?_))
        | ((with_reducible have HQ1 : Hid (RL w0 _ g (textS (textS (textS (numS (numS sk))))) bb _ Lk _) := HL0); clear HQ1; refine aloneH (i := 13) rfl (by kernel_rfl) (fun K hK => ?_))
        | ((with_reducible have HQ1 : Hid (RL w0 _ g (numS (textS (textS (textS (numS (numS sk)))))) bb _ Lk _) := HL0); clear HQ1; refine aloneH (i := 15) rfl (by kernel_rfl) (fun K hK => ?_))
        | ((with_reducible have HQ1 : Hid (RL w0 _ g (flagS (numS (textS (textS (textS (numS (numS sk))))))) bb _ Lk _) := HL0); clear HQ1; refine aloneH (i := 17) rfl (by kernel_rfl) (fun K hK => ?_))
        | ((with_reducible have HQ1 : Hid (RL w0 _ g (numS (flagS (numS (textS (textS (textS (numS (numS sk)))))))) bb _ Lk _) := HL0); clear HQ1; refine aloneH (i := 19) rfl (by kernel_rfl) (fun K hK => ?_))
        rw [if_pos (by rfl)]
        go_simp
        first | refine (HL0.out.num).mono ?_ | refine (HL0.out.text).mono ?_ | refine (HL0.out.flag).mono ?_
        rintro e wn ⟨rfl, hs⟩
        have HN := Lib.hid hs
        clear hs HL0
        have HL0 := HN
        clear HN
        try go_simp
        refine hK.out _ _ (trivial) ?_
        clear hK K hHeld; intro hHeld; (try simp only [Act.put, pA, pB, pC]))
       | (
        first
        | ((with_reducible have HQ1 : Hid (RL w0 _ g sk bb _ Lk _) := HL0); clear HQ1; refine twoH (i := 1) (i2 := 3) rfl rfl (by kernel_rfl) (fun K hK => ?_) (fun K hK => ?_))
        | ((with_reducible have HQ1 : Hid (RL w0 _ g (numS sk) bb _ Lk _) := HL0); clear HQ1; refine twoH (i := 1) (i2 := 5) rfl rfl (by kernel_rfl) (fun K hK => ?_) (fun K hK => ?_))
        | ((with_reducible have HQ1 : Hid (RL w0 _ g (numS (numS sk)) bb _ Lk _) := HL0); clear HQ1; refine twoH (i := 1) (i2 := 7) rfl rfl (by kernel_rfl) (fun K hK => ?_) (fun K hK => ?_))
        | ((with_reducible have HQ1 : Hid (RL w0 _ g (textS (numS (numS sk))) bb _ Lk _) := HL0); clear HQ1; refine twoH (i := 1) (i2 := 9) rfl rfl (by kernel_rfl) (fun K hK => ?_) (fun K hK => ?_))
        | ((with_reducible have HQ1 : Hid (RL w0 _ g (textS (textS (numS (numS sk)))) bb _ Lk _) := HL0); clear HQ1; refine twoH (i := 1) (i2 := 11) rfl rfl (by kernel_rfl) (fun K hK => ?_) (fun K hK => ?_))
        | ((with_reducible have HQ1 : Hid (RL w0 _ g (textS (textS (textS (numS (numS sk))))) bb _ Lk _) := HL0); clear HQ1; refine twoH (i := 1) (i2 := 13) rfl rfl (by kernel_rfl) (fun K hK => ?_) (fun K hK => ?_))
        | ((with_reducible have HQ1 : Hid (RL w0 _ g (numS (textS (textS (textS (numS (numS sk)))))) bb _ Lk _) := HL0); clear HQ1; refine twoH (i := 1) (i2 := 15) rfl rfl (by kernel_rfl) (fun K hK => ?_) (fun K hK => ?_))
        | ((with_reducible have HQ1 : Hid (RL w0 _ g (flagS (numS (textS (textS (textS (numS (numS sk))))))) bb _ Lk _) := HL0); clear HQ1; refine twoH (i := 1) (i2 := 17) rfl rfl (by kernel_rfl) (fun K hK => ?_) (fun K hK => ?_))
        | ((with_reducible have HQ1 : Hid (RL w0 _ g (numS (flagS (numS (textS (textS (textS (numS (numS sk)))))))) bb _ Lk _) := HL0); clear HQ1; refine twoH (i := 1) (i2 := 19) rfl rfl (by kernel_rfl) (fun K hK => ?_) (fun K hK => ?_))
        rw [if_pos (by rfl)]
        have y8 := cell_of_row _ bb 8 _ _ _ HL0.out.box
        simp only [docC, List.getElem?_toArray, List.getElem?_cons_succ, List.getElem?_cons_zero] at y8
        go_simp
        try clear y8
        refine hK.out _ _ (trivial) ?_
        clear hK K hHeld; intro hHeld; (try simp only [Act.put, pA, pB, pC])
        have HLd := Lib.hid True.intro
        rotate_left
        rw [if_pos (by rfl)]
        go_simp
        first | refine (HL0.out.num).mono ?_ | refine (HL0.out.text).mono ?_ | refine (HL0.out.flag).mono ?_
        rintro e wn ⟨rfl, hs⟩
        have HN := Lib.hid hs
        clear hs HL0
        have HL0 := HN
        clear HN
        try go_simp
        refine hK.out _ _ (trivial) ?_
        clear hK K hHeld; intro hHeld; (try simp only [Act.put, pA, pB, pC])))
      all_goals (
       refine takeP (i := 20) ?_ rfl (.inl ⟨by rfl, ?_⟩) ?_
       rotate_left
       focus ((intro wS hSw); (try dsimp only at hSw); go_simp; (try with_reducible rfl); done)
       try simp only [Act.put, pA, pB, pC]
       first
       | (
        have HLe := HLd
        clear HLe
        refine aloneH (i := 21) rfl (by kernel_rfl) (fun K hK => ?_)
        rw [if_pos (by rfl)]
        have HN := Lib.hid (HL0.out.on (below_alloc _ (.cells #[.int .i64 (numV sk), .int .i64 (numV (numS sk)), .string (textV (numS (numS sk))), .string (textV (textS (numS (numS sk)))), .string (textV (textS (textS (numS (numS sk))))), .int .i64 (numV (textS (textS (textS (numS (numS sk)))))), .bool (flagV (numS (textS (textS (textS (numS (numS sk))))))), .int .i64 (numV (flagS (numS (textS (textS (textS (numS (numS sk)))))))), .bool (flagV (numS (flagS (numS (textS (textS (textS (numS (numS sk)))))))))] 30)))
        have HM := Lib.hid (boxLineV (p := lineV sk) (heap_alloc_new wn (.cells #[.int .i64 (numV sk), .int .i64 (numV (numS sk)), .string (textV (numS (numS sk))), .string (textV (textS (numS (numS sk)))), .string (textV (textS (textS (numS (numS sk))))), .int .i64 (numV (textS (textS (textS (numS (numS sk)))))), .bool (flagV (numS (textS (textS (textS (numS (numS sk))))))), .int .i64 (numV (flagS (numS (textS (textS (textS (numS (numS sk)))))))), .bool (flagV (numS (flagS (numS (textS (textS (textS (numS (numS sk)))))))))] 30)))
        clear HL0
        have HL0 := HN
        clear HN
        go_simp
        refine hK.out _ _ (trivial) ?_
        clear hK K hHeld; intro hHeld; (try simp only [Act.put, pA, pB, pC]))
       | (
        refine twoH (i := 1) (i2 := 21) rfl rfl (by kernel_rfl) (fun K hK => ?_) (fun K hK => ?_)
        rw [if_pos (by rfl)]
        have y8 := cell_of_row _ bb 8 _ _ _ HL0.out.box
        simp only [docC, List.getElem?_toArray, List.getElem?_cons_succ, List.getElem?_cons_zero] at y8
        go_simp
        try clear y8
        refine hK.out _ _ (trivial) ?_
        clear hK K hHeld; intro hHeld; (try simp only [Act.put, pA, pB, pC])
        refine aloneH (i := 21) rfl (by kernel_rfl) (fun K hK => ?_)
        rw [if_pos (by rfl)]
        have HN := Lib.hid (HL0.out.on (below_alloc _ (.cells #[.int .i64 (numV sk), .int .i64 (numV (numS sk)), .string (textV (numS (numS sk))), .string (textV (textS (numS (numS sk)))), .string (textV (textS (textS (numS (numS sk))))), .int .i64 (numV (textS (textS (textS (numS (numS sk)))))), .bool (flagV (numS (textS (textS (textS (numS (numS sk))))))), .int .i64 (numV (flagS (numS (textS (textS (textS (numS (numS sk)))))))), .bool (flagV (numS (flagS (numS (textS (textS (textS (numS (numS sk)))))))))] 30)))
        have HM := Lib.hid (boxLineV (p := lineV sk) (heap_alloc_new wn (.cells #[.int .i64 (numV sk), .int .i64 (numV (numS sk)), .string (textV (numS (numS sk))), .string (textV (textS (numS (numS sk)))), .string (textV (textS (textS (numS (numS sk))))), .int .i64 (numV (textS (textS (textS (numS (numS sk)))))), .bool (flagV (numS (textS (textS (textS (numS (numS sk))))))), .int .i64 (numV (flagS (numS (textS (textS (textS (numS (numS sk)))))))), .bool (flagV (numS (flagS (numS (textS (textS (textS (numS (numS sk)))))))))] 30)))
        clear HL0
        have HL0 := HN
        clear HN
        go_simp
        refine hK.out _ _ (trivial) ?_
        clear hK K hHeld; intro hHeld; (try simp only [Act.put, pA, pB, pC])
        rotate_left
        rw [if_pos (by rfl)]
        have HN := Lib.hid (HL0.out.on (below_alloc _ (.cells #[.int .i64 (numV sk), .int .i64 (numV (numS sk)), .string (textV (numS (numS sk))), .string (textV (textS (numS (numS sk)))), .string (textV (textS (textS (numS (numS sk))))), .int .i64 (numV (textS (textS (textS (numS (numS sk)))))), .bool (flagV (numS (textS (textS (textS (numS (numS sk))))))), .int .i64 (numV (flagS (numS (textS (textS (textS (numS (numS sk)))))))), .bool (flagV (numS (flagS (numS (textS (textS (textS (numS (numS sk)))))))))] 30)))
        have HM := Lib.hid (boxLineV (p := lineV sk) (heap_alloc_new wn (.cells #[.int .i64 (numV sk), .int .i64 (numV (numS sk)), .string (textV (numS (numS sk))), .string (textV (textS (numS (numS sk)))), .string (textV (textS (textS (numS (numS sk))))), .int .i64 (numV (textS (textS (textS (numS (numS sk)))))), .bool (flagV (numS (textS (textS (textS (numS (numS sk))))))), .int .i64 (numV (flagS (numS (textS (textS (textS (numS (numS sk)))))))), .bool (flagV (numS (flagS (numS (textS (textS (textS (numS (numS sk)))))))))] 30)))
        clear HL0
        have HL0 := HN
        clear HN
        go_simp
        refine hK.out _ _ (trivial) ?_
        clear hK K hHeld; intro hHeld; (try simp only [Act.put, pA, pB, pC])
        refine aloneH (i := 1) rfl (by kernel_rfl) (fun K hK => ?_)
        rw [if_pos (by rfl)]
        have y8 := cell_of_row _ bb 8 _ _ _ HL0.out.box
        simp only [docC, List.getElem?_toArray, List.getElem?_cons_succ, List.getElem?_cons_zero] at y8
        go_simp
        try clear y8
        refine hK.out _ _ (trivial) ?_
        clear hK K hHeld; intro hHeld; (try simp only [Act.put, pA, pB, pC])))
      all_goals (
       refine aloneH (i := 22) rfl (by kernel_rfl) (fun K hK => ?_)
       rw [if_pos (by rfl)]
       refine wp_appendLineV_rl _ _ HL0.out _ _ rfl rfl ?_ _ 1 1 [lineV sk] ?_ rfl HM.out (by simp) ?_ k HLen.out ?_
       · rfl
       · rfl
       · have := HLen.out; simp; omega
       intro A1 c1 w12 hs hbx
       have HR12 := Lib.hid hs
       have HBX := Lib.hid hbx
       clear hs hbx
       refine hK.out _ _ (trivial) ?_
       clear hK K hHeld; intro hHeld; (try simp only [Act.put, pA, pB, pC])
       refine takeP (i := 23) ?_ rfl (.inl ⟨by rfl, ?_⟩) ?_
       rotate_left
       focus ((intro wS hSw); (try dsimp only at hSw); go_simp; (try with_reducible rfl); done)
       try simp only [Act.put, pA, pB, pC]
       refine aloneH (i := 24) rfl (by kernel_rfl) (fun K hK => ?_)
       rw [if_pos (by rfl)]
       have y8 := cell_of_row _ bb 8 _ _ _ HBX.out
       have z8 := frozen_of_row _ bb 8 _ _ HBX.out
       simp only [docC, List.getElem?_toArray, List.getElem?_cons_succ, List.getElem?_cons_zero] at y8
       go_simp
       try clear y8 z8
       refine hK.out _ _ (trivial) ?_
       clear hK K hHeld; intro hHeld; (try simp only [Act.put])
       refine wpAnyH_done (by kernel_rfl) ?_ _
       clear hHeld
       have HF := Lib.hid (rdLines_next HQL.out HQ.out HR12.out)
       go_wp2
       go_roundw
       case rel => exact ⟨k + 1, by omega, by go_num, A1, c1, HF⟩
       case measure => simp [intOf]; omega)
    · obtain rfl : k = m.toNat := by omega
      have HZ9 := Lib.hid ((HL0.out.at_ w.heap.size HG.out.2 (Nat.ne_of_gt HG.out.1)).trans HZ.out)
      have HX := Lib.hid HL0.out.box
      go_wp2_with ((with_reducible refine wpList_load_row (o := ⟨some 64, _, _, _, _, _⟩) ?a1 26 (.tmp 6) ?a2 bb ?a3 26 (docC (headV s) (.slice A m.toNat c)) (0, 0) _ HX.out Tryz.underlying26 ?a4 (doc_info _ _) ?_); (case a1 => rfl); (case a2 => rfl); (case a3 => rfl); (case a4 => rfl); refine Stop.out ?_)
      unfold Stop
      go_wp2_with ((with_reducible refine wpList_store_row (o := ⟨none, _, _, _, _, _⟩) ?b1 26 (.tmp 2) (.tmp 64) ?b2 w.heap.size (docC (headV s) (.slice A m.toNat c)) ?b3 ?b4 26 #[.string ⟨#[]⟩, .bool false, .bool false, .string ⟨#[]⟩, .int .i64 0, .string ⟨#[]⟩, .string ⟨#[]⟩, .string ⟨#[]⟩, .slice none 0 0] HZ9.out ?b5 ?b6 ?b7 ?_); (case b1 => rfl); (case b2 => rfl); (case b3 => rfl); (case b4 => rfl); (case b5 => exact doc_info _ _); (case b6 => rfl); (case b7 => exact doc_one _); refine Stop.out ?_)
      unfold Stop
      have HZe := Lib.hid (setRow_heap _ w.heap.size _ (docC (headV s) (.slice A m.toNat c)) _ _ HZ9.out)
      go_wp2
      refine bodyPost_ret (v := .agg (docC (headV s) (.slice A m.toNat c))) (results_cell_row Tryz.results76 _ _ w.heap.size 26 (docC (headV s) (.slice A m.toNat c)) (0, 0) _ rfl HZe.out Tryz.underlying26 rfl (doc_info _ _)) rfl ?_
      have e1 : docR s = (headV s, (linesR m.toNat s9).1, (linesR m.toNat s9).2) := by unfold docR; rw [HM0.out, HS9.out, if_neg (by omega)]
      have hln := linesR_len m.toNat s9
      unfold ReadDoc
      rw [e1]
      refine ⟨A, c, ?_, ?_, (HP.out _ _ HL0.out.rs).far (only_setRow _ _ _) (Nat.le_refl _)⟩
      · show Ending.returned _ = Ending.returned (.agg (docC (headV s) (.slice A ((linesR m.toNat s9).1.length) c)))
        rw [hln]
      · show OwnLineV _ w.heap.size (.slice A ((linesR m.toNat s9).1.length) c) _
        rw [hln]
        refine World.ownsRow.kept (row := some w.heap.size) (OwnLineV.less HL0.out.own (Nat.le_of_lt HG.out.2)) ?_ (.inr fun e => ?_)
        · exact ⟨rfl, rfl, rfl, by simp [World.setRow], fun k _ hk => setRow_other _ _ k _ (fun e => hk (by rw [e]))⟩
        · have := (HL0.out.own.block _ e).1
          have := HG.out.2
          omega
end Go.Proofs.YtmjjenemokojjaaGreat
