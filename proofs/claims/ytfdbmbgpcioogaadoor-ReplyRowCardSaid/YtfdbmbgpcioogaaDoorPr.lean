/- The law's ReplyRow (stage 10) walked. (mkpr.py writes it.) -/
import Derived.Test.YtfdbmbgpcioogaaDoorPr1
namespace Go.Proofs.YtfdbmbgpcioogaaDoor
open Go.RowKit
attribute [local go_sem] store_one S_match S_store eguard_BN nguard_BN

set_option maxRecDepth 100000 in
set_option maxHeartbeats 1000000 in
theorem row10_any {w : World} (C : ReplyI w) (xs : List Rpl) (hs : List Bool) (a : Option Addr) (ca : Nat) (b o : Nat) (ha : Option Addr) (hc : Nat) (hb ho : Nat) (hX : RepsA w a ca xs b o) (hH : BoolsA w ha hc hs hb ho) (hbd : ∀ x ∈ xs, x.2.2.length ≤ 281474976710656) :
    Calls Tryd.prog 6 #[.slice a (List.length xs) ca, .slice ha (List.length hs) hc] w fun e w' => e = .returned (.bool true) ∧ Below w.heap.size w w' := by
  have HC := Lib.hid C
  have HAW := Lib.hid (awake10_any C)
  have hlX := fun w' => hX.len 3 w'
  have hlH := fun w' => hH.len 3 w'
  have HX := Lib.hid (And.intro hX (And.intro hH hbd))
  obtain ⟨NX, hNX⟩ : ∃ N, N = xs.length := ⟨_, rfl⟩
  obtain ⟨NH, hNH⟩ : ∃ N, N = hs.length := ⟨_, rfl⟩
  rw [← hNX] at hlX ⊢
  rw [← hNH] at hlH ⊢
  have HN := Lib.hid (And.intro hNX hNH)
  clear C hX hH hbd hNX hNH
  go_enter Tryd.func6, Tryd.ntmps6
  go_wp2_with fail
  refine HAW.out.mono ?_
  rintro e W1 ⟨rfl, hB⟩
  have H1 := Lib.hid hB
  clear hB HAW
  by_cases h20 : 20 < NX
  · have g1 : decide ((20 : Int) < (NX : Int)) = true := decide_eq_true (by omega)
    go_wp2
    go_ret
    exact ⟨rfl, H1.out⟩
  have g1 : decide ((20 : Int) < (NX : Int)) = false := decide_eq_false (by omega)
  go_wp2_with fail
  go_loopw [5, 6, 7, 8] (fun tv sv av iv wr => ∃ (ys : List Snt) (i : Nat), i ≤ NX ∧ tv = S (allS ys) ∧ iv = .int .i64 (i : Int) ∧ ys.length ≤ i ∧ Hid (RowAt w ys (ys.map Snt.head) sv av wr ∧ (∀ y ∈ ys, y.ok w) ∧ (allS ys).length ≤ 100000)) (fun _ _ _ iv _ => NX - (intOf iv).toNat)
  case atStart => exact ⟨[], 0, Nat.zero_le _, rfl, rfl, Nat.zero_le _, Lib.hid ⟨rowAt_nil w H1.out, fun y hy => (by cases hy), by simp [allS]⟩⟩
  case round =>
    obtain ⟨ys, i, hi, rfl, rfl, hyl, HR⟩ := hrel
    have hwi : IntKind.i64.wrap ((i : Int) + 1) = (i : Int) + 1 := by rw [IntKind.wrap_i64]; omega
    obtain ⟨A, hA⟩ : ∃ A, A = allS ys := ⟨_, rfl⟩
    rw [← hA]
    have hlA := run_len_S (P := Tryd.prog) Tryd.underlying9 3 A
    obtain ⟨LA, hLA⟩ : ∃ L, L = A.length := ⟨_, rfl⟩
    rw [← hLA] at hlA
    have HAA := Lib.hid (And.intro hA hLA)
    clear hA hLA
    by_cases hlt : i < NX
    case pos =>
      have g2 : decide ((i : Int) < (NX : Int)) = true := decide_eq_true (by omega)
      obtain ⟨⟨c, fs, body⟩, hx⟩ : ∃ x, xs[i]? = some x := ⟨xs[i]'(by have := HN.out.1; omega), List.getElem?_eq_getElem _⟩
      have hbl := HX.out.2.2 _ (List.mem_of_getElem? hx)
      obtain ⟨fa, fc, fb, fo, -, -, -, hF0⟩ := HX.out.1.cell i _ hx
      dsimp only at hbl hF0
      have hXr := HX.out.1.below HR.out.1.bel
      have hix := HX.out.1.index i (by have := HN.out.1; omega)
      rw [← HN.out.1] at hix
      obtain ⟨kk, hkk⟩ : ∃ kk, kk = o + i * 3 := ⟨_, rfl⟩
      rw [← hkk] at hix
      have hc3 : Hid (∀ W, Below w.heap.size w W → ∃ fa fc fb fo, W.cell? ⟨b, kk, none⟩ = some (.int .i64 c) ∧ W.cell? ⟨b, kk + 1, none⟩ = some (.slice fa fs.length fc) ∧ W.cell? ⟨b, kk + 2, none⟩ = some (S body) ∧ FA w (.slice fa fs.length fc) fs fb fo) := Lib.hid fun W hW => by
        obtain ⟨fa, fc, fb, fo, h1, h2, h3, h4⟩ := HX.out.1.cell i _ hx
        rw [← hkk] at h1 h2 h3
        exact ⟨fa, fc, fb, fo, by rw [hW.cell (World.block_lt_of_cell? w _ h1)]; exact h1, by rw [hW.cell (World.block_lt_of_cell? w _ h2)]; exact h2, by rw [hW.cell (World.block_lt_of_cell? w _ h3)]; exact h3, h4⟩
      clear fa fc fb fo hF0
      obtain ⟨fa, fc, fb, fo, j0, j1, j2, hF⟩ := hc3.out w (Below.refl _ w)
      have hcells : Hid (∀ W, Below w.heap.size w W → W.cell? ⟨b, kk, none⟩ = some (.int .i64 c) ∧ W.cell? ⟨b, kk + 1, none⟩ = some (.slice fa fs.length fc) ∧ W.cell? ⟨b, kk + 2, none⟩ = some (S body)) := Lib.hid fun W hW =>
        ⟨by rw [hW.cell (World.block_lt_of_cell? w _ j0)]; exact j0, by rw [hW.cell (World.block_lt_of_cell? w _ j1)]; exact j1, by rw [hW.cell (World.block_lt_of_cell? w _ j2)]; exact j2⟩
      have HF := Lib.hid (And.intro hF hbl)
      obtain ⟨NF, hNF⟩ : ∃ N, N = fs.length := ⟨_, rfl⟩
      rw [← hNF] at hcells
      have HNF := Lib.hid hNF
      obtain ⟨c0, c1, c2⟩ := hcells.out wr HR.out.1.bel
      have hgr := great_any c fs body (.slice fa fs.length fc) fb fo wr (hF.below HR.out.1.bel) hbl
      unfold rpC at hgr
      rw [← hNF] at hgr
      have HG := Lib.hid hgr
      clear hx hbl hXr hkk hc3 j0 j1 j2 hF hNF hgr
      go_wp2_with fail
      clear c0 c1 c2
      refine HG.out.mono ?_
      rintro e W2 ⟨z, rfl, hz, hB⟩
      have H2 := Lib.hid (HR.out.1.below hB)
      have HZ := Lib.hid hz
      clear hB hz HG
      cases z with
      | true =>
        go_wp2
        go_ret
        exact ⟨rfl, H2.out.bel⟩
      | false =>
      by_cases hA2 : 20000 < LA
      · have g3 : decide ((20000 : Int) < (LA : Int)) = true := decide_eq_true (by omega)
        go_wp2
        go_ret
        exact ⟨rfl, H2.out.bel⟩
      have g3 : decide ((20000 : Int) < (LA : Int)) = false := decide_eq_false (by omega)
      have HA2 := Lib.hid (And.intro hA2 (HZ.out rfl))
      -- what is asked
      obtain ⟨c0, c1, c2⟩ := hcells.out W2 H2.out.bel
      have hby : Hid (∀ hd : Bool, Calls Tryd.prog 8 #[.agg #[.int .i64 c, .slice fa NF fc, S body], .bool hd, .bool false] W2 fun e w' => e = .returned (bytesV (bytesO c fs body hd false)) ∧ Below W2.heap.size W2 w') := Lib.hid fun hd => by
        have h := HC.out.bytes c fs body hd false (.slice fa fs.length fc) fb fo W2 H2.out.bel (HF.out.1.below H2.out.bel) (by have := HA2.out.2; omega)
        unfold rpC at h
        rw [← HNF.out] at h
        exact h
      by_cases hh : i < NH
      case pos =>
        have g4 : decide ((i : Int) < (NH : Int)) = true := decide_eq_true (by omega)
        obtain ⟨hd, hhd⟩ : ∃ x, hs[i]? = some x := ⟨hs[i]'(by have := HN.out.2; omega), List.getElem?_eq_getElem _⟩
        have hih := HX.out.2.1.index i (by have := HN.out.2; omega)
        rw [← HN.out.2] at hih
        have ch := (HX.out.2.1.below H2.out.bel).cell i hd hhd
        clear hhd
        cases hd with
        | true =>
          go_wp2_with fail
          clear hih ch
          clear c0 c1 c2
          refine (hby.out true).mono ?_
          rintro e W3 ⟨rfl, hB⟩
          have H3 := Lib.hid (H2.out.below hB)
          clear hB
          by_cases hmay : mayB c fs body false = true
          case neg =>
            have hn : bytesO c fs body true false = none := by unfold bytesO; rw [if_neg hmay]
            rw [hn]
            unfold bytesV
            dsimp only
            clear hn hmay
            go_wp2
            exact ⟨⟨ys, i + 1, by omega, by rw [HAA.out.1], by go_num, by omega, Lib.hid ⟨H3.out, HR.out.2⟩⟩, by simp [intOf]; omega⟩
          obtain ⟨y, hy⟩ : ∃ y : Snt, y = ⟨c, fs, body, true, fa, fc, fb, fo⟩ := ⟨_, rfl⟩
          have HOK : Hid (y.ok w) := Lib.hid (by rw [hy]; exact ⟨(may_iff.1 hmay).1, HF.out.1, HA2.out.2⟩)
          have hyb : bytesO c fs body true false = some y.bytes := by unfold bytesO; rw [if_pos hmay, hy]; rfl
          have hyl2 : y.bytes.length ≤ 71000 := by
            have h1 := bytes_len (head := true) (close := false) (may_iff.1 hmay).1
            have h2 := HA2.out.2
            rw [hy]; show (bytesB c fs body true false).length ≤ _; omega
          rw [hyb]
          unfold bytesV
          dsimp only
          obtain ⟨Yb, hYb⟩ : ∃ Y, Y = y.bytes := ⟨_, rfl⟩
          rw [← hYb]
          have yA : binOp .add 9 (S A) (S Yb) = pure (S (A ++ Yb)) := S_add 9 A Yb (by have := HAA.out.2; rw [hYb]; omega)
          obtain ⟨A2, hA3⟩ : ∃ A2, A2 = A ++ Yb := ⟨_, rfl⟩
          rw [← hA3] at yA
          have HAL : Hid (A2 = allS (ys ++ [y]) ∧ (allS (ys ++ [y])).length ≤ 100000) := Lib.hid ⟨by rw [hA3, hYb, allS_snoc, ← HAA.out.1], by rw [allS_snoc, ← HAA.out.1, List.length_append, ← HAA.out.2]; omega⟩
          have HYC : Hid (y.cells = [.int .i64 c, .slice fa NF fc, S y.bd] ∧ y.head = true ∧ y.bd = if true = true then [] else body) := Lib.hid ⟨by rw [HNF.out, hy]; rfl, by rw [hy], by rw [hy]; rfl⟩
          clear hmay hy hyb hyl2 hYb hA3
          obtain ⟨c0, c1, c2⟩ := hcells.out W3 H3.out.bel
          obtain ⟨bd, hbd⟩ : ∃ bd, bd = y.bd := ⟨_, rfl⟩
          have HBD := Lib.hid hbd
          have hbd2 : bd = if true = true then [] else body := by rw [hbd]; exact HYC.out.2.2
          clear hbd
          -- the copy, in its box
          obtain ⟨b12, hb12⟩ : ∃ b, b = W3.heap.size := ⟨_, rfl⟩
          obtain ⟨W5, hW5⟩ : ∃ W, W = W3.alloc (.cells #[.int .i64 c, .slice fa NF fc, S bd] 29) := ⟨_, rfl⟩
          have hB5 : Below W3.heap.size W3 W5 := by rw [hW5]; exact (Below.refl _ W3).alloc (Nat.le_refl _) _
          have hR5 := H3.out.below hB5
          have H5 := Lib.hid hR5
          have hr12 : Row W5 b12 #[.int .i64 c, .slice fa NF fc, S bd] 29 := by rw [hW5, hb12]; exact row_new _ _ _
          have m0 : W5.cell? ⟨b12, 0, none⟩ = some (.int .i64 c) := cell_of_row W5 _ 0 _ _ (0, 0) hr12
          have m1 : W5.cell? ⟨b12, 1, none⟩ = some (.slice fa NF fc) := cell_of_row W5 _ 1 _ _ (0, 0) hr12
          have m2 : W5.cell? ⟨b12, 2, none⟩ = some (S bd) := cell_of_row W5 _ 2 _ _ (0, 0) hr12
          have hone : ∀ x ∈ (#[.int .i64 c, .slice fa NF fc, S bd] : Array Value).toList, x.oneCell' = true := by
            intro x hx
            simp only [List.mem_cons, List.not_mem_nil, or_false] at hx
            rcases hx with rfl | rfl | rfl <;> rfl
          have hyn : ys.length < 1000000 := by omega
          have hW : W5 = W3.alloc (.cells #[.int .i64 c, .slice fa NF fc, .string ⟨#[]⟩] 29) := by rw [hW5, hbd2, if_pos rfl]; rfl
          clear hB5 hR5 hr12 hW5 hbd2
          rw [hW, hb12] at m0 m1 m2
          have HWW := Lib.hid (And.intro hW hb12)
          clear hW hb12
          go_wp2_with (first
            | (at_builtin; refine wpList_addL rfl 42 29 (.tmp 69) (.tmp 71) rfl Tryd.underlying42 elePP (by omega) w.heap.size _ u6 rfl ys.length (ys.flatMap Snt.cells) (by rw [← HWW.out.1]; exact H5.out.sent) #[.int .i64 c, .slice fa NF fc, S bd] rfl hone rfl (W3.heap.size + 1) (alloc_size W3 _) rfl hyn (by rw [← HWW.out.1]; exact H5.out.bel.size) ?_
               intro g' cap W6 o1 o2 o3 o4
               have H6 : Hid (RowAt w (ys ++ [y]) (ys.map Snt.head) (.slice (some ⟨g', 0, none⟩) (ys.length + 1) cap) u7 W6) := Lib.hid (RowAt.send H5.out (by rw [HYC.out.1, ← HBD.out]; exact o1) (by rw [HWW.out.1]; exact o2) (by rw [HWW.out.1]; exact o3))
               clear o1 o2 o3 o4 m0 m1 m2)
            | (at_builtin; refine wpList_add rfl 43 4 (.tmp 73) (.tmp 75) rfl Tryd.underlying43 elem4 w.heap.size W6 u7 rfl _ H6.out.asked (.bool true) rfl _ rfl rfl rfl (by rw [List.length_map, List.length_map]; omega) H6.out.bel.size ?_
               intro v' W7 o1 o2 o3
               have H7 : Hid (RowAt w (ys ++ [y]) ((ys ++ [y]).map Snt.head) (.slice (some ⟨g', 0, none⟩) (ys.length + 1) cap) v' W7) := Lib.hid (by
                 have := RowAt.ask H6.out o1 o2 o3
                 rw [List.map_append, List.map_singleton, HYC.out.2.1]; exact this)
               clear o1 o2 o3)
            | fail)
          exact ⟨⟨ys ++ [y], i + 1, by omega, by rw [← HAL.out.1], by go_num, by rw [List.length_append, List.length_singleton]; omega, Lib.hid ⟨H7.out, fun z hz => by
            rcases List.mem_append.1 hz with h | h
            · exact HR.out.2.1 z h
            · rw [List.mem_singleton] at h; subst h; exact HOK.out, HAL.out.2⟩⟩, by simp [intOf]; omega⟩
        | false =>
          go_wp2_with fail
          clear hih ch
          clear c0 c1 c2
          refine (hby.out false).mono ?_
          rintro e W3 ⟨rfl, hB⟩
          have H3 := Lib.hid (H2.out.below hB)
          clear hB
          by_cases hmay : mayB c fs body false = true
          case neg =>
            have hn : bytesO c fs body false false = none := by unfold bytesO; rw [if_neg hmay]
            rw [hn]
            unfold bytesV
            dsimp only
            clear hn hmay
            go_wp2
            exact ⟨⟨ys, i + 1, by omega, by rw [HAA.out.1], by go_num, by omega, Lib.hid ⟨H3.out, HR.out.2⟩⟩, by simp [intOf]; omega⟩
          obtain ⟨y, hy⟩ : ∃ y : Snt, y = ⟨c, fs, body, false, fa, fc, fb, fo⟩ := ⟨_, rfl⟩
          have HOK : Hid (y.ok w) := Lib.hid (by rw [hy]; exact ⟨(may_iff.1 hmay).1, HF.out.1, HA2.out.2⟩)
          have hyb : bytesO c fs body false false = some y.bytes := by unfold bytesO; rw [if_pos hmay, hy]; rfl
          have hyl2 : y.bytes.length ≤ 71000 := by
            have h1 := bytes_len (head := false) (close := false) (may_iff.1 hmay).1
            have h2 := HA2.out.2
            rw [hy]; show (bytesB c fs body false false).length ≤ _; omega
          rw [hyb]
          unfold bytesV
          dsimp only
          obtain ⟨Yb, hYb⟩ : ∃ Y, Y = y.bytes := ⟨_, rfl⟩
          rw [← hYb]
          have yA : binOp .add 9 (S A) (S Yb) = pure (S (A ++ Yb)) := S_add 9 A Yb (by have := HAA.out.2; rw [hYb]; omega)
          obtain ⟨A2, hA3⟩ : ∃ A2, A2 = A ++ Yb := ⟨_, rfl⟩
          rw [← hA3] at yA
          have HAL : Hid (A2 = allS (ys ++ [y]) ∧ (allS (ys ++ [y])).length ≤ 100000) := Lib.hid ⟨by rw [hA3, hYb, allS_snoc, ← HAA.out.1], by rw [allS_snoc, ← HAA.out.1, List.length_append, ← HAA.out.2]; omega⟩
          have HYC : Hid (y.cells = [.int .i64 c, .slice fa NF fc, S y.bd] ∧ y.head = false ∧ y.bd = if false = true then [] else body) := Lib.hid ⟨by rw [HNF.out, hy]; rfl, by rw [hy], by rw [hy]; rfl⟩
          clear hmay hy hyb hyl2 hYb hA3
          obtain ⟨c0, c1, c2⟩ := hcells.out W3 H3.out.bel
          obtain ⟨bd, hbd⟩ : ∃ bd, bd = y.bd := ⟨_, rfl⟩
          have HBD := Lib.hid hbd
          have hbd2 : bd = if false = true then [] else body := by rw [hbd]; exact HYC.out.2.2
          clear hbd
          -- the copy, in its box
          obtain ⟨b12, hb12⟩ : ∃ b, b = W3.heap.size := ⟨_, rfl⟩
          obtain ⟨W5, hW5⟩ : ∃ W, W = W3.alloc (.cells #[.int .i64 c, .slice fa NF fc, S bd] 29) := ⟨_, rfl⟩
          have hB5 : Below W3.heap.size W3 W5 := by rw [hW5]; exact (Below.refl _ W3).alloc (Nat.le_refl _) _
          have hR5 := H3.out.below hB5
          have H5 := Lib.hid hR5
          have hr12 : Row W5 b12 #[.int .i64 c, .slice fa NF fc, S bd] 29 := by rw [hW5, hb12]; exact row_new _ _ _
          have m0 : W5.cell? ⟨b12, 0, none⟩ = some (.int .i64 c) := cell_of_row W5 _ 0 _ _ (0, 0) hr12
          have m1 : W5.cell? ⟨b12, 1, none⟩ = some (.slice fa NF fc) := cell_of_row W5 _ 1 _ _ (0, 0) hr12
          have m2 : W5.cell? ⟨b12, 2, none⟩ = some (S bd) := cell_of_row W5 _ 2 _ _ (0, 0) hr12
          have hone : ∀ x ∈ (#[.int .i64 c, .slice fa NF fc, S bd] : Array Value).toList, x.oneCell' = true := by
            intro x hx
            simp only [List.mem_cons, List.not_mem_nil, or_false] at hx
            rcases hx with rfl | rfl | rfl <;> rfl
          have hyn : ys.length < 1000000 := by omega
          have hW : W5 = W3.alloc (.cells #[.int .i64 c, .slice fa NF fc, S body] 29) := by rw [hW5, hbd2, if_neg (by simp)]
          clear hB5 hR5 hr12 hW5 hbd2
          rw [hW, hb12] at m0 m1 m2
          have HWW := Lib.hid (And.intro hW hb12)
          clear hW hb12
          go_wp2_with (first
            | (at_builtin; refine wpList_addL rfl 42 29 (.tmp 69) (.tmp 71) rfl Tryd.underlying42 elePP (by omega) w.heap.size _ u6 rfl ys.length (ys.flatMap Snt.cells) (by rw [← HWW.out.1]; exact H5.out.sent) #[.int .i64 c, .slice fa NF fc, S bd] rfl hone rfl (W3.heap.size + 1) (alloc_size W3 _) rfl hyn (by rw [← HWW.out.1]; exact H5.out.bel.size) ?_
               intro g' cap W6 o1 o2 o3 o4
               have H6 : Hid (RowAt w (ys ++ [y]) (ys.map Snt.head) (.slice (some ⟨g', 0, none⟩) (ys.length + 1) cap) u7 W6) := Lib.hid (RowAt.send H5.out (by rw [HYC.out.1, ← HBD.out]; exact o1) (by rw [HWW.out.1]; exact o2) (by rw [HWW.out.1]; exact o3))
               clear o1 o2 o3 o4 m0 m1 m2)
            | (at_builtin; refine wpList_add rfl 43 4 (.tmp 73) (.tmp 75) rfl Tryd.underlying43 elem4 w.heap.size W6 u7 rfl _ H6.out.asked (.bool false) rfl _ rfl rfl rfl (by rw [List.length_map, List.length_map]; omega) H6.out.bel.size ?_
               intro v' W7 o1 o2 o3
               have H7 : Hid (RowAt w (ys ++ [y]) ((ys ++ [y]).map Snt.head) (.slice (some ⟨g', 0, none⟩) (ys.length + 1) cap) v' W7) := Lib.hid (by
                 have := RowAt.ask H6.out o1 o2 o3
                 rw [List.map_append, List.map_singleton, HYC.out.2.1]; exact this)
               clear o1 o2 o3)
            | fail)
          exact ⟨⟨ys ++ [y], i + 1, by omega, by rw [← HAL.out.1], by go_num, by rw [List.length_append, List.length_singleton]; omega, Lib.hid ⟨H7.out, fun z hz => by
            rcases List.mem_append.1 hz with h | h
            · exact HR.out.2.1 z h
            · rw [List.mem_singleton] at h; subst h; exact HOK.out, HAL.out.2⟩⟩, by simp [intOf]; omega⟩
      case neg =>
        have g4 : decide ((i : Int) < (NH : Int)) = false := decide_eq_false (by omega)
        go_wp2_with fail
        clear c0 c1 c2
        refine (hby.out false).mono ?_
        rintro e W3 ⟨rfl, hB⟩
        have H3 := Lib.hid (H2.out.below hB)
        clear hB
        by_cases hmay : mayB c fs body false = true
        case neg =>
          have hn : bytesO c fs body false false = none := by unfold bytesO; rw [if_neg hmay]
          rw [hn]
          unfold bytesV
          dsimp only
          clear hn hmay
          go_wp2
          exact ⟨⟨ys, i + 1, by omega, by rw [HAA.out.1], by go_num, by omega, Lib.hid ⟨H3.out, HR.out.2⟩⟩, by simp [intOf]; omega⟩
        obtain ⟨y, hy⟩ : ∃ y : Snt, y = ⟨c, fs, body, false, fa, fc, fb, fo⟩ := ⟨_, rfl⟩
        have HOK : Hid (y.ok w) := Lib.hid (by rw [hy]; exact ⟨(may_iff.1 hmay).1, HF.out.1, HA2.out.2⟩)
        have hyb : bytesO c fs body false false = some y.bytes := by unfold bytesO; rw [if_pos hmay, hy]; rfl
        have hyl2 : y.bytes.length ≤ 71000 := by
          have h1 := bytes_len (head := false) (close := false) (may_iff.1 hmay).1
          have h2 := HA2.out.2
          rw [hy]; show (bytesB c fs body false false).length ≤ _; omega
        rw [hyb]
        unfold bytesV
        dsimp only
        obtain ⟨Yb, hYb⟩ : ∃ Y, Y = y.bytes := ⟨_, rfl⟩
        rw [← hYb]
        have yA : binOp .add 9 (S A) (S Yb) = pure (S (A ++ Yb)) := S_add 9 A Yb (by have := HAA.out.2; rw [hYb]; omega)
        obtain ⟨A2, hA3⟩ : ∃ A2, A2 = A ++ Yb := ⟨_, rfl⟩
        rw [← hA3] at yA
        have HAL : Hid (A2 = allS (ys ++ [y]) ∧ (allS (ys ++ [y])).length ≤ 100000) := Lib.hid ⟨by rw [hA3, hYb, allS_snoc, ← HAA.out.1], by rw [allS_snoc, ← HAA.out.1, List.length_append, ← HAA.out.2]; omega⟩
        have HYC : Hid (y.cells = [.int .i64 c, .slice fa NF fc, S y.bd] ∧ y.head = false ∧ y.bd = if false = true then [] else body) := Lib.hid ⟨by rw [HNF.out, hy]; rfl, by rw [hy], by rw [hy]; rfl⟩
        clear hmay hy hyb hyl2 hYb hA3
        obtain ⟨c0, c1, c2⟩ := hcells.out W3 H3.out.bel
        obtain ⟨bd, hbd⟩ : ∃ bd, bd = y.bd := ⟨_, rfl⟩
        have HBD := Lib.hid hbd
        have hbd2 : bd = if false = true then [] else body := by rw [hbd]; exact HYC.out.2.2
        clear hbd
        -- the copy, in its box
        obtain ⟨b12, hb12⟩ : ∃ b, b = W3.heap.size := ⟨_, rfl⟩
        obtain ⟨W5, hW5⟩ : ∃ W, W = W3.alloc (.cells #[.int .i64 c, .slice fa NF fc, S bd] 29) := ⟨_, rfl⟩
        have hB5 : Below W3.heap.size W3 W5 := by rw [hW5]; exact (Below.refl _ W3).alloc (Nat.le_refl _) _
        have hR5 := H3.out.below hB5
        have H5 := Lib.hid hR5
        have hr12 : Row W5 b12 #[.int .i64 c, .slice fa NF fc, S bd] 29 := by rw [hW5, hb12]; exact row_new _ _ _
        have m0 : W5.cell? ⟨b12, 0, none⟩ = some (.int .i64 c) := cell_of_row W5 _ 0 _ _ (0, 0) hr12
        have m1 : W5.cell? ⟨b12, 1, none⟩ = some (.slice fa NF fc) := cell_of_row W5 _ 1 _ _ (0, 0) hr12
        have m2 : W5.cell? ⟨b12, 2, none⟩ = some (S bd) := cell_of_row W5 _ 2 _ _ (0, 0) hr12
        have hone : ∀ x ∈ (#[.int .i64 c, .slice fa NF fc, S bd] : Array Value).toList, x.oneCell' = true := by
          intro x hx
          simp only [List.mem_cons, List.not_mem_nil, or_false] at hx
          rcases hx with rfl | rfl | rfl <;> rfl
        have hyn : ys.length < 1000000 := by omega
        have hW : W5 = W3.alloc (.cells #[.int .i64 c, .slice fa NF fc, S body] 29) := by rw [hW5, hbd2, if_neg (by simp)]
        clear hB5 hR5 hr12 hW5 hbd2
        rw [hW, hb12] at m0 m1 m2
        have HWW := Lib.hid (And.intro hW hb12)
        clear hW hb12
        go_wp2_with (first
          | (at_builtin; refine wpList_addL rfl 42 29 (.tmp 69) (.tmp 71) rfl Tryd.underlying42 elePP (by omega) w.heap.size _ u6 rfl ys.length (ys.flatMap Snt.cells) (by rw [← HWW.out.1]; exact H5.out.sent) #[.int .i64 c, .slice fa NF fc, S bd] rfl hone rfl (W3.heap.size + 1) (alloc_size W3 _) rfl hyn (by rw [← HWW.out.1]; exact H5.out.bel.size) ?_
             intro g' cap W6 o1 o2 o3 o4
             have H6 : Hid (RowAt w (ys ++ [y]) (ys.map Snt.head) (.slice (some ⟨g', 0, none⟩) (ys.length + 1) cap) u7 W6) := Lib.hid (RowAt.send H5.out (by rw [HYC.out.1, ← HBD.out]; exact o1) (by rw [HWW.out.1]; exact o2) (by rw [HWW.out.1]; exact o3))
             clear o1 o2 o3 o4 m0 m1 m2)
          | (at_builtin; refine wpList_add rfl 43 4 (.tmp 73) (.tmp 75) rfl Tryd.underlying43 elem4 w.heap.size W6 u7 rfl _ H6.out.asked (.bool false) rfl _ rfl rfl rfl (by rw [List.length_map, List.length_map]; omega) H6.out.bel.size ?_
             intro v' W7 o1 o2 o3
             have H7 : Hid (RowAt w (ys ++ [y]) ((ys ++ [y]).map Snt.head) (.slice (some ⟨g', 0, none⟩) (ys.length + 1) cap) v' W7) := Lib.hid (by
               have := RowAt.ask H6.out o1 o2 o3
               rw [List.map_append, List.map_singleton, HYC.out.2.1]; exact this)
             clear o1 o2 o3)
          | fail)
        exact ⟨⟨ys ++ [y], i + 1, by omega, by rw [← HAL.out.1], by go_num, by rw [List.length_append, List.length_singleton]; omega, Lib.hid ⟨H7.out, fun z hz => by
          rcases List.mem_append.1 hz with h | h
          · exact HR.out.2.1 z h
          · rw [List.mem_singleton] at h; subst h; exact HOK.out, HAL.out.2⟩⟩, by simp [intOf]; omega⟩
    obtain rfl : i = NX := by omega
    have g2 : decide ((i : Int) < (i : Int)) = false := decide_eq_false (by omega)
    obtain ⟨Wo, hWo⟩ : ∃ W, W = wr := ⟨_, rfl⟩
    subst hWo
    have hlS := fun w' => HR.out.1.sentLen 3 w'
    obtain ⟨NY, hNY⟩ : ∃ N, N = ys.length := ⟨_, rfl⟩
    rw [← hNY] at hlS hyl
    have HNY := Lib.hid hNY
    have hNYl : NY ≤ 100 := by omega
    obtain ⟨sv, hsv⟩ : ∃ v, v = u6 := ⟨_, rfl⟩
    obtain ⟨av, hav⟩ : ∃ v, v = u7 := ⟨_, rfl⟩
    rw [← hsv, ← hav] at HR
    rw [← hsv] at hlS
    rw [← hsv, ← hav]
    clear hNY hsv hav
    go_wp2_with fail
    go_loopw [5, 13] (fun tv jv wr => ∃ j : Nat, j ≤ NY ∧ tv = S (allS (ys.drop j)) ∧ jv = .int .i64 (j : Int) ∧ Hid (RowAt w ys (ys.map Snt.head) sv av wr)) (fun _ jv _ => NY - (intOf jv).toNat)
    case atStart => exact ⟨0, Nat.zero_le _, by rw [List.drop_zero, HAA.out.1], rfl, Lib.hid HR.out.1⟩
    case round =>
      obtain ⟨j, hj, rfl, rfl, HQ⟩ := hrel
      have hwj : IntKind.i64.wrap ((j : Int) + 1) = (j : Int) + 1 := by rw [IntKind.wrap_i64]; omega
      obtain ⟨Aj, hAj⟩ : ∃ A, A = allS (ys.drop j) := ⟨_, rfl⟩
      rw [← hAj]
      have HAJ := Lib.hid hAj
      clear hAj
      by_cases hlt2 : j < NY
      case neg =>
        obtain rfl : j = NY := by omega
        have g5 : decide ((j : Int) < (j : Int)) = false := decide_eq_false (by omega)
        have hz : Aj = [] := by rw [HAJ.out, List.drop_of_length_le (by rw [← HNY.out]; exact Nat.le_refl _)]; rfl
        have e0 : binOp .eql 9 (S Aj) (.string ⟨#[]⟩) = pure (.bool true) := by rw [hz]; exact eql_S 9 [] []
        have g0 : ∀ x y, eqGuard .eql 9 x y (S Aj) (.string ⟨#[]⟩) = pure () := fun x y => guard_S 9 x y Aj []
        clear hz
        go_wp2
        go_ret
        exact ⟨rfl, HQ.out.bel⟩
      have g5 : decide ((j : Int) < (NY : Int)) = true := decide_eq_true (by omega)
      obtain ⟨y, hy⟩ : ∃ y, ys[j]? = some y := ⟨ys[j]'(by have := HNY.out; omega), List.getElem?_eq_getElem _⟩
      have HOK := Lib.hid (HR.out.2.1 y (List.mem_of_getElem? hy))
      have hdr : ys.drop j = y :: ys.drop (j + 1) := by
        rw [List.drop_eq_getElem_cons (by have := HNY.out; omega), (List.getElem?_eq_some_iff.1 hy).2]
      have hAl : Aj.length ≤ 100000 := by
        have h1 := HR.out.2.2
        have h2 : allS ys = allS (ys.take j) ++ allS (ys.drop j) := by
          have : allS (ys.take j ++ ys.drop j) = allS (ys.take j) ++ allS (ys.drop j) := by unfold allS; rw [List.flatMap_append]
          rwa [List.take_append_drop] at this
        rw [h2, List.length_append, ← HAJ.out] at h1
        omega
      have hrd : readF Aj y.head = .ok y.c.toNat y.fs y.bd false y.bytes.length := by rw [HAJ.out, hdr]; exact sent_read HOK.out _
      have hAe : Aj = y.bytes ++ allS (ys.drop (j + 1)) := by rw [HAJ.out, hdr, allS_cons]
      obtain ⟨A2, hA2⟩ : ∃ A2, A2 = allS (ys.drop (j + 1)) := ⟨_, rfl⟩
      rw [← hA2] at hAe
      obtain ⟨LB, hLB⟩ : ∃ L, L = y.bytes.length := ⟨_, rfl⟩
      obtain ⟨LJ, hLJ⟩ : ∃ L, L = Aj.length := ⟨_, rfl⟩
      have hLL : LB ≤ LJ := by rw [hLB, hLJ, hAe, List.length_append]; omega
      have hlJ := run_len_S (P := Tryd.prog) Tryd.underlying9 3 Aj
      rw [← hLJ] at hlJ
      have hsl : ∀ w, (Instr.slice 9 (S Aj) (some (.int .i64 (LB : Int))) none none).run Tryd.prog w = .ok (S A2) w := fun w => by
        have := slice_drop (P := Tryd.prog) Tryd.underlying9 Aj LB (by omega) w
        rwa [show Aj.drop LB = A2 by rw [hAe, hLB, List.drop_left']; rfl] at this
      have n1 : decide ((LB : Int) < 0) = false := decide_eq_false (by omega)
      have n2 : decide ((LJ : Int) < (LB : Int)) = false := decide_eq_false (by omega)
      have HA2 := Lib.hid hA2
      rw [← hLB] at hrd
      obtain ⟨ga, capa, hva, -, -, hra⟩ := HQ.out.asked.shape (n := NY) (by rw [List.length_map, List.length_map, ← HNY.out]) (by omega)
      have hca : wr.cell? ⟨ga, j, none⟩ = some (.bool y.head) := by
        have := hra j (.bool y.head) (by rw [List.getElem?_map, List.getElem?_map, hy]; rfl)
        rwa [Nat.zero_add] at this
      have hia : ∀ w', (Instr.indexAt 43 av (.int .i64 (j : Int))).run Tryd.prog w' = .ok (.pointer (some ⟨ga, j, none⟩)) w' := fun w' => by
        rw [hva]
        have := run_index_at (P := Tryd.prog) Tryd.underlying43 (fun w => Tryd.sizeOf4 w) ga 0 NY capa j hlt2 w'
        rwa [Nat.mul_one, Nat.zero_add] at this
      obtain ⟨hd, hhd⟩ : ∃ x, x = y.head := ⟨_, rfl⟩
      obtain ⟨c, hc⟩ : ∃ x, x = y.c := ⟨_, rfl⟩
      obtain ⟨NF, hNF⟩ : ∃ x, x = y.fs.length := ⟨_, rfl⟩
      obtain ⟨bd, hbd⟩ : ∃ x, x = y.bd := ⟨_, rfl⟩
      rw [← hhd] at hca hrd
      have hread := HC.out.read Aj hd wr HQ.out.bel hAl
      rw [hrd] at hread
      have HRD := Lib.hid hread
      have hcu : ((y.c.toNat : Nat) : Int) = c := by have := HOK.out.may.lo; omega
      have HYY := Lib.hid (And.intro hcu (And.intro hNF (And.intro hbd (And.intro hc hy))))
      clear hdr hAl hrd hAe hA2 hLB hLJ hva hra hhd hc hNF hbd hread hcu hy
      go_wp2_with fail
      clear hca hia
      refine HRD.out.mono ?_
      rintro e W6 ⟨hB6, V6, g6, rfl, hF6⟩
      obtain ⟨a6, fc6, rfl⟩ := hF6.form
      unfold rpC
      rw [HYY.out.1, ← HYY.out.2.1, ← HYY.out.2.2.1]
      rw [← HYY.out.2.1] at hF6
      obtain ⟨b14, hb14⟩ : ∃ b, b = W6.heap.size := ⟨_, rfl⟩
      obtain ⟨W7, hW7⟩ : ∃ W, W = W6.alloc (.cells #[.int .i64 c, .slice a6 NF fc6, S bd] 29) := ⟨_, rfl⟩
      have hB7 : Below W6.heap.size W6 W7 := by rw [hW7]; exact (Below.refl _ W6).alloc (Nat.le_refl _) _
      have H7 := Lib.hid (And.intro (HQ.out.below (hB6.trans (hB7.mono hB6.size))) (show Row W7 b14 #[.int .i64 c, .slice a6 NF fc6, S bd] 29 by rw [hW7, hb14]; exact row_new _ _ _))
      have HF7 := Lib.hid (hF6.below hB7).fa
      clear hB6 hF6 hB7 HRD HQ
      go_wp2
      rw [← hW7, ← hb14]
      clear hW7 hb14
      obtain ⟨Wq, hWq⟩ : ∃ Wq, Wq = W7.drew := ⟨_, rfl⟩
      have hBq : Below W7.heap.size W7 Wq := by rw [hWq]; exact ⟨rfl, rfl, rfl, Nat.le_refl _, fun _ _ => rfl⟩
      have HQ7 := Lib.hid (And.intro (H7.out.1.below hBq) (And.intro (H7.out.2.below hBq H7.out.2.lt) (HF7.out.below hBq)))
      obtain ⟨gs, his, s0, s1, s2⟩ := HQ7.out.1.look HYY.out.2.2.2.2
      rw [← HYY.out.2.2.2.1] at s0
      rw [← HYY.out.2.1] at s1
      rw [← HYY.out.2.2.1] at s2
      obtain ⟨fa, hfa⟩ : ∃ x, x = y.fa := ⟨_, rfl⟩
      obtain ⟨fc, hfc⟩ : ∃ x, x = y.fc := ⟨_, rfl⟩
      rw [← hfa, ← hfc] at s1
      have hsame : Hid (∀ W, RowAt w ys (ys.map Snt.head) sv av W → FA W (.slice a6 NF fc6) y.fs g6 0 → Calls Tryd.prog 14 #[.agg #[.int .i64 c, .slice a6 NF fc6, S bd], .agg #[.int .i64 c, .slice fa NF fc, S bd]] W fun e w' => e = .returned (.bool true) ∧ Below W.heap.size W w') := Lib.hid fun W h1 h2 => by
        have h3 := HOK.out.flds.below h1.bel
        rw [← HYY.out.2.1, ← hfa, ← hfc] at h3
        have h4 := fsLen_count y.fs
        have h5 := HOK.out.len
        unfold rpLen at h5
        exact dsame10_true c bd y.fs (.slice a6 NF fc6) (.slice fa NF fc) g6 0 y.fb y.fo (by omega) W h2 h3
      have hSQ : (Wq.cell? ⟨b14, 0, none⟩ = some (.int .i64 c) ∧ Wq.cell? ⟨b14, 1, none⟩ = some (.slice a6 NF fc6) ∧ Wq.cell? ⟨b14, 2, none⟩ = some (S bd)) ∧ (Wq.cell? ⟨gs, j * 3, none⟩ = some (.int .i64 c) ∧ Wq.cell? ⟨gs, j * 3 + 1, none⟩ = some (.slice fa NF fc) ∧ Wq.cell? ⟨gs, j * 3 + 2, none⟩ = some (S bd)) :=
        ⟨⟨cell_of_row Wq _ 0 _ _ (0, 0) HQ7.out.2.1, cell_of_row Wq _ 1 _ _ (0, 0) HQ7.out.2.1, cell_of_row Wq _ 2 _ _ (0, 0) HQ7.out.2.1⟩, s0, s1, s2⟩
      clear hBq s0 s1 s2 hfa hfc
      refine wp_region_noPanic ?_
      refine wp_region_held_drew (S := fun W => (W.cell? ⟨b14, 0, none⟩ = some (.int .i64 c) ∧ W.cell? ⟨b14, 1, none⟩ = some (.slice a6 NF fc6) ∧ W.cell? ⟨b14, 2, none⟩ = some (S bd)) ∧ (W.cell? ⟨gs, j * 3, none⟩ = some (.int .i64 c) ∧ W.cell? ⟨gs, j * 3 + 1, none⟩ = some (.slice fa NF fc) ∧ W.cell? ⟨gs, j * 3 + 2, none⟩ = some (S bd))) (by kernel_rfl) (by rw [← hWq]; exact hSQ) (fun _ => ?_)
      rw [← hWq]
      clear hWq
      refine take_at (i := 0) (d := some 94) (v := .int .i64 0) rfl (by kernel_rfl) (by kernel_rfl) (by kernel_rfl) (fun _ _ _ h => h) (fun oi ho => ?_) hSQ ?_
      · obtain rfl := Option.some.inj ho
        exact Or.inl ⟨by rfl, fun wx hSw => by go_simp⟩
      simp only [Act.put, List.setIfInBounds_toArray, List.set_cons_zero, List.set_cons_succ]
      refine take_at (i := 1) (d := some 95) (v := .bool false) rfl (by kernel_rfl) (by kernel_rfl) (by kernel_rfl) (fun _ _ _ h => h) (fun oi ho => ?_) hSQ ?_
      · obtain rfl := Option.some.inj ho
        exact Or.inl ⟨by rfl, fun wx hSw => by go_simp⟩
      simp only [Act.put, List.setIfInBounds_toArray, List.set_cons_zero, List.set_cons_succ]
      refine take_at (i := 2) (d := some 96) (v := .bool false) rfl (by kernel_rfl) (by kernel_rfl) (by kernel_rfl) (fun _ _ _ h => h) (fun oi ho => ?_) hSQ ?_
      · obtain rfl := Option.some.inj ho
        exact Or.inl ⟨by rfl, fun wx hSw => by go_simp⟩
      simp only [Act.put, List.setIfInBounds_toArray, List.set_cons_zero, List.set_cons_succ]
      refine take_at (i := 3) (d := some 97) (v := .bool false) rfl (by kernel_rfl) (by kernel_rfl) (by kernel_rfl) (fun _ _ _ h => h) (fun oi ho => ?_) hSQ ?_
      · obtain rfl := Option.some.inj ho
        exact Or.inl ⟨by rfl, fun wx hSw => by go_simp⟩
      simp only [Act.put, List.setIfInBounds_toArray, List.set_cons_zero, List.set_cons_succ]
      refine take_at (i := 4) (d := some 98) (v := .bool false) rfl (by kernel_rfl) (by kernel_rfl) (by kernel_rfl) (fun _ _ _ h => h) (fun oi ho => ?_) hSQ ?_
      · obtain rfl := Option.some.inj ho
        exact Or.inl ⟨by rfl, fun wx hSw => by go_simp⟩
      simp only [Act.put, List.setIfInBounds_toArray, List.set_cons_zero, List.set_cons_succ]
      refine take_at (i := 5) (d := some 99) (v := .bool false) rfl (by kernel_rfl) (by kernel_rfl) (by kernel_rfl) (fun _ _ _ h => h) (fun oi ho => ?_) hSQ ?_
      · obtain rfl := Option.some.inj ho
        exact Or.inl ⟨by rfl, fun wx hSw => by go_simp⟩
      simp only [Act.put, List.setIfInBounds_toArray, List.set_cons_zero, List.set_cons_succ]
      refine take_at (i := 6) (d := some 100) (v := .int .i64 (LB : Int)) rfl (by kernel_rfl) (by kernel_rfl) (by kernel_rfl) (fun _ _ _ h => h) (fun oi ho => ?_) hSQ ?_
      · obtain rfl := Option.some.inj ho
        exact Or.inl ⟨by rfl, fun wx hSw => by go_simp⟩
      simp only [Act.put, List.setIfInBounds_toArray, List.set_cons_zero, List.set_cons_succ]
      refine take_at (i := 7) (d := some 101) (v := .bool false) rfl (by kernel_rfl) (by kernel_rfl) (by kernel_rfl) (fun _ _ _ h => h) (fun oi ho => ?_) hSQ ?_
      · obtain rfl := Option.some.inj ho
        exact Or.inl ⟨by rfl, fun wx hSw => by go_simp⟩
      simp only [Act.put, List.setIfInBounds_toArray, List.set_cons_zero, List.set_cons_succ]
      refine take_at (i := 8) (d := some 102) (v := .bool false) rfl (by kernel_rfl) (by kernel_rfl) (by kernel_rfl) (fun _ _ _ h => h) (fun oi ho => ?_) hSQ ?_
      · obtain rfl := Option.some.inj ho
        exact Or.inl ⟨by rfl, fun wx hSw => by go_simp⟩
      simp only [Act.put, List.setIfInBounds_toArray, List.set_cons_zero, List.set_cons_succ]
      refine take_at (i := 9) (d := some 103) (v := .bool false) rfl (by kernel_rfl) (by kernel_rfl) (by kernel_rfl) (fun _ _ _ h => h) (fun oi ho => ?_) hSQ ?_
      · obtain rfl := Option.some.inj ho
        exact Or.inl ⟨by rfl, fun wx hSw => by go_simp⟩
      simp only [Act.put, List.setIfInBounds_toArray, List.set_cons_zero, List.set_cons_succ]
      refine take_at (i := 10) (d := some 104) (v := .int .i64 (LB : Int)) rfl (by kernel_rfl) (by kernel_rfl) (by kernel_rfl) (fun _ _ _ h => h) (fun oi ho => ?_) hSQ ?_
      · obtain rfl := Option.some.inj ho
        exact Or.inl ⟨by rfl, fun wx hSw => by go_simp⟩
      simp only [Act.put, List.setIfInBounds_toArray, List.set_cons_zero, List.set_cons_succ]
      refine take_at (i := 11) (d := some 105) (v := S Aj) rfl (by kernel_rfl) (by kernel_rfl) (by kernel_rfl) (fun _ _ _ h => h) (fun oi ho => ?_) hSQ ?_
      · obtain rfl := Option.some.inj ho
        exact Or.inl ⟨by rfl, fun wx hSw => by go_simp⟩
      simp only [Act.put, List.setIfInBounds_toArray, List.set_cons_zero, List.set_cons_succ]
      refine take_at (i := 12) (d := some 106) (v := .int .i64 (LJ : Int)) rfl (by kernel_rfl) (by kernel_rfl) (by kernel_rfl) (fun _ _ _ h => h) (fun oi ho => ?_) hSQ ?_
      · obtain rfl := Option.some.inj ho
        exact Or.inl ⟨by rfl, fun wx hSw => by go_simp⟩
      simp only [Act.put, List.setIfInBounds_toArray, List.set_cons_zero, List.set_cons_succ]
      refine take_at (i := 13) (d := some 107) (v := .bool false) rfl (by kernel_rfl) (by kernel_rfl) (by kernel_rfl) (fun _ _ _ h => h) (fun oi ho => ?_) hSQ ?_
      · obtain rfl := Option.some.inj ho
        exact Or.inl ⟨by rfl, fun wx hSw => by go_simp⟩
      simp only [Act.put, List.setIfInBounds_toArray, List.set_cons_zero, List.set_cons_succ]
      refine take_at (i := 14) (d := some 108) (v := .bool false) rfl (by kernel_rfl) (by kernel_rfl) (by kernel_rfl) (fun _ _ _ h => h) (fun oi ho => ?_) hSQ ?_
      · obtain rfl := Option.some.inj ho
        exact Or.inl ⟨by rfl, fun wx hSw => by go_simp⟩
      simp only [Act.put, List.setIfInBounds_toArray, List.set_cons_zero, List.set_cons_succ]
      refine take_at (i := 15) (d := some 109) (v := .bool false) rfl (by kernel_rfl) (by kernel_rfl) (by kernel_rfl) (fun _ _ _ h => h) (fun oi ho => ?_) hSQ ?_
      · obtain rfl := Option.some.inj ho
        exact Or.inl ⟨by rfl, fun wx hSw => by go_simp⟩
      simp only [Act.put, List.setIfInBounds_toArray, List.set_cons_zero, List.set_cons_succ]
      refine take_at (i := 16) (d := some 110) (v := .agg #[.int .i64 c, .slice a6 NF fc6, S bd]) rfl (by kernel_rfl) (by kernel_rfl) (by kernel_rfl) (fun _ _ _ h => h) (fun oi ho => ?_) hSQ ?_
      · obtain rfl := Option.some.inj ho
        exact Or.inl ⟨by rfl, fun wx hSw => by obtain ⟨⟨x0, x1, x2⟩, x3, x4, x5⟩ := hSw; go_simp⟩
      simp only [Act.put, List.setIfInBounds_toArray, List.set_cons_zero, List.set_cons_succ]
      refine take_at (i := 17) (d := some 111) (v := sv) rfl (by kernel_rfl) (by kernel_rfl) (by kernel_rfl) (fun _ _ _ h => h) (fun oi ho => ?_) hSQ ?_
      · obtain rfl := Option.some.inj ho
        exact Or.inl ⟨by rfl, fun wx hSw => by go_simp⟩
      simp only [Act.put, List.setIfInBounds_toArray, List.set_cons_zero, List.set_cons_succ]
      refine take_at (i := 18) (d := some 112) (v := .int .i64 (j : Int)) rfl (by kernel_rfl) (by kernel_rfl) (by kernel_rfl) (fun _ _ _ h => h) (fun oi ho => ?_) hSQ ?_
      · obtain rfl := Option.some.inj ho
        exact Or.inl ⟨by rfl, fun wx hSw => by go_simp⟩
      simp only [Act.put, List.setIfInBounds_toArray, List.set_cons_zero, List.set_cons_succ]
      refine take_at (i := 19) (d := some 113) (v := .pointer (some ⟨gs, j * 3, none⟩)) rfl (by kernel_rfl) (by kernel_rfl) (by kernel_rfl) (fun _ _ _ h => h) (fun oi ho => ?_) hSQ ?_
      · obtain rfl := Option.some.inj ho
        exact Or.inl ⟨by rfl, fun wx hSw => by go_simp⟩
      simp only [Act.put, List.setIfInBounds_toArray, List.set_cons_zero, List.set_cons_succ]
      refine take_at (i := 20) (d := some 114) (v := .agg #[.int .i64 c, .slice fa NF fc, S bd]) rfl (by kernel_rfl) (by kernel_rfl) (by kernel_rfl) (fun _ _ _ h => h) (fun oi ho => ?_) hSQ ?_
      · obtain rfl := Option.some.inj ho
        exact Or.inl ⟨by rfl, fun wx hSw => by obtain ⟨⟨x0, x1, x2⟩, x3, x4, x5⟩ := hSw; go_simp⟩
      simp only [Act.put, List.setIfInBounds_toArray, List.set_cons_zero, List.set_cons_succ]
      refine ready_call (i := 21) (d := some 115) (f := 14) (args := #[.agg #[.int .i64 c, .slice a6 NF fc6, S bd], .agg #[.int .i64 c, .slice fa NF fc, S bd]]) rfl (by kernel_rfl) (fun oi ho => ?_) ?_
      · obtain rfl := Option.some.inj ho
        exact ⟨by rfl, by go_simp⟩
      refine (hsame.out Wq HQ7.out.1 HQ7.out.2.2).mono ?_
      rintro e W8 ⟨rfl, hB⟩
      have HQ8 := Lib.hid (HQ7.out.1.below hB)
      have hSQ8 : (W8.cell? ⟨b14, 0, none⟩ = some (.int .i64 c) ∧ W8.cell? ⟨b14, 1, none⟩ = some (.slice a6 NF fc6) ∧ W8.cell? ⟨b14, 2, none⟩ = some (S bd)) ∧ (W8.cell? ⟨gs, j * 3, none⟩ = some (.int .i64 c) ∧ W8.cell? ⟨gs, j * 3 + 1, none⟩ = some (.slice fa NF fc) ∧ W8.cell? ⟨gs, j * 3 + 2, none⟩ = some (S bd)) := by
        have k : ∀ b o u, Wq.cell? ⟨b, o, none⟩ = some u → W8.cell? ⟨b, o, none⟩ = some u := fun b o u h => by rw [hB.cell (World.block_lt_of_cell? Wq _ h)]; exact h
        exact ⟨⟨k _ _ _ hSQ.1.1, k _ _ _ hSQ.1.2.1, k _ _ _ hSQ.1.2.2⟩, k _ _ _ hSQ.2.1, k _ _ _ hSQ.2.2.1, k _ _ _ hSQ.2.2.2⟩
      clear hB hSQ hsame
      refine ⟨_, rfl, hSQ8, ?_⟩
      simp only [Act.put, List.setIfInBounds_toArray, List.set_cons_zero, List.set_cons_succ]
      refine take_at (i := 22) (d := some 116) (v := .bool false) rfl (by kernel_rfl) (by kernel_rfl) (by kernel_rfl) (fun _ _ _ h => h) (fun oi ho => ?_) hSQ8 ?_
      · obtain rfl := Option.some.inj ho
        exact Or.inl ⟨by rfl, fun wx hSw => by go_simp⟩
      simp only [Act.put, List.setIfInBounds_toArray, List.set_cons_zero, List.set_cons_succ]
      refine take_at (i := 23) (d := some 117) (v := .bool false) rfl (by kernel_rfl) (by kernel_rfl) (by kernel_rfl) (fun _ _ _ h => h) (fun oi ho => ?_) hSQ8 ?_
      · obtain rfl := Option.some.inj ho
        exact Or.inl ⟨by rfl, fun wx hSw => by go_simp⟩
      simp only [Act.put, List.setIfInBounds_toArray, List.set_cons_zero, List.set_cons_succ]
      refine wpAnyH_done (by kernel_rfl) ?_ _
      refine NoPanic.normal ?_
      clear hSQ8 his
      go_wp2
      exact ⟨⟨j + 1, by omega, by rw [← HA2.out], by go_num, HQ8⟩, by simp [intOf]; omega⟩
end Go.Proofs.YtfdbmbgpcioogaaDoor
