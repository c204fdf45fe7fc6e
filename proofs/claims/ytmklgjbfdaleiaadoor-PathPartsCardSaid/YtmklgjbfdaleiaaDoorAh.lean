/- The law's PathParts (stage 11) walked. (mkah.py writes it.) -/
import Derived.Test.YtmklgjbfdaleiaaDoorAg
import Derived.Deep.AppendLies
namespace Go.Proofs.YtmklgjbfdaleiaaDoor
open Go.RowKit
attribute [local go_sem] store_one B_match B_store S_match S_store eguard_BN nguard_BN

theorem infoT : ∃ i, Tryd.prog.info? 9 = some i ∧ i.zero = some (.string ⟨#[]⟩) ∧ i.size = 1 ∧ i.bytes = 16 := by
  have h : (Tryd.prog.info? 9).map (fun i => (i.zero, i.size, i.bytes)) = some (some (.string ⟨#[]⟩), 1, 16) := by kernel_rfl
  cases hi : Tryd.prog.info? 9 with
  | none => rw [hi] at h; cases h
  | some i =>
    rw [hi] at h
    simp only [Option.map_some, Option.some.injEq, Prod.mk.injEq] at h
    exact ⟨i, rfl, h.1, h.2.1, h.2.2⟩
section
variable {ops : Array Oper} {rest : List Oper} {o : Oper} {a : Act} {w : World} {Q : Exit → Act → World → Prop}
/-- Texts appended, all of a row's, at an operation with a guard that is taken. -/
theorem wpList_addG (hw : Region.wanted o (yielded ops a.tmps) = true) (s x : Operand) (ho : o.op = .call { callee := .builtin .append, args := #[s, x], argTypes := #[22, 22] })
    (base : Nat) (v : Value) (hs : a.eval s = v) (l k : List (List UInt8)) (hown : w.ownsRow base 9 1 v l.length (l.map S)) (b : Nat) (c : Nat) (hx : a.eval x = .slice (some ⟨b, 0, none⟩) k.length c)
    (hk : ∀ j u, k[j]? = some u → w.cell? ⟨b, j, none⟩ = some (S u)) (hm : 0 < k.length) (hlen : l.length + k.length < 1000000) (hbase : base ≤ w.heap.size)
    (h : ∀ g cap w', w'.ownsRow base 9 1 (.slice (some ⟨g, 0, none⟩) (l ++ k).length cap) (l ++ k).length ((l ++ k).map S) → w.grownBy w' v.ownBlock → wpList Tryd.prog ops Q rest (a.put o.dst (.slice (some ⟨g, 0, none⟩) (l ++ k).length cap)) w') :
    wpList Tryd.prog ops Q (o :: rest) a w := by
  obtain ⟨i, hi, hz, hsz, hby⟩ := infoT
  refine wpList_step fun K hK => ?_
  rw [if_pos hw]
  refine wp_append_lies w s x 22 ho base 9 i (.string ⟨#[]⟩) 1 16 Tryd.underlying22 hi hz hsz hby rfl (by omega) v l.length (l.map S) hs hown ⟨b, 0, none⟩ k.length c (k.map S) hx (by simp) (fun j u hu => ?_) (fun u hu => ?_) hm (by simp [maxLen]; omega) (by omega) hbase _ rfl ?_
  · rw [List.getElem?_map] at hu
    cases hj : k[j]? with
    | none => rw [hj] at hu; cases hu
    | some y =>
      rw [hj] at hu
      cases hu
      rw [Addr.add_mid, Nat.zero_add]
      exact hk j y hj
  · obtain ⟨y, _, rfl⟩ := List.mem_map.1 hu
    rfl
  · intro g cap w' h2 h3 _ _
    rw [← List.length_append] at h2 ⊢
    refine hK _ _ (h g cap w' ?_ h3)
    rw [List.map_append]
    exact h2
end
theorem ta_rowO {w : World} {base : Nat} {V : Value} {l : List (List UInt8)} (h : w.ownsRow base 9 1 V l.length (l.map S)) : ∃ b, TA w V l b 0 := by
  rcases h.2 with ⟨rfl, h0⟩ | ⟨g, cap, cur, rfl, hb, hg, hn, hm, hs, ht⟩
  · have : l = [] := List.length_eq_zero_iff.1 h0
    subst this
    exact ⟨0, ta_nil w none 0⟩
  · refine ⟨g, fun T w' => lenT _ _ _ T w', fun i hi w' => indexT g 0 _ cap i hi w', fun i s hs' => ?_, ⟨_, _, rfl⟩⟩
    have h1 : (l.map S)[i]? = some (S s) := by rw [List.getElem?_map, hs']; rfl
    rw [← ht, Nat.mul_one, List.getElem?_take] at h1
    split at h1
    · rw [Nat.zero_add, cell_of_row w g i cur 9 (0, 0) hg]
      simpa using h1
    · cases h1
theorem rowO_below {w w' : World} {base : Nat} {V : Value} {n : Nat} {xs : List Value} (h : w.ownsRow base 9 1 V n xs) (hb : Below w.heap.size w w') : w'.ownsRow base 9 1 V n xs := by
  refine ⟨h.1, ?_⟩
  rcases h.2 with hn | ⟨g, cap, cur, h1, h2, h3, h4⟩
  · exact .inl hn
  · exact .inr ⟨g, cap, cur, h1, h2, by rw [hb.block g (Array.getElem?_eq_some_iff.1 h3).1]; exact h3, h4⟩
theorem own_empty (w : World) : (w.alloc (.cells #[] 9)).ownsRow w.heap.size 9 1 (.slice (some ⟨w.heap.size, 0, none⟩) 0 0) ([] : List (List UInt8)).length (([] : List (List UInt8)).map S) :=
  ⟨rfl, .inr ⟨w.heap.size, 0, #[], rfl, Nat.le_refl _, heap_alloc_new w _, Nat.le_refl _, by simp [maxLen], rfl, rfl⟩⟩
theorem cells_after {W4 W7 : World} {gd : Nat} {ld : List (List UInt8)} (h : ∀ j u, ld[j]? = some u → W4.cell? ⟨gd, j, none⟩ = some (S u)) (hg : gd < W4.heap.size) (hgr : (W4.alloc (.cells #[] 9)).grownBy W7 (some W4.heap.size)) :
    ∀ j u, ld[j]? = some u → W7.cell? ⟨gd, j, none⟩ = some (S u) := fun j u hu => by
  have e1 : W7.heap[gd]? = W4.heap[gd]? := (hgr.block gd (by rw [alloc_size]; omega) (fun e => by cases e; omega)).trans (heap_alloc_old W4 _ hg)
  rw [World.cell?_of_block (w := W4) e1]
  exact h j u hu
theorem count_next {s : List UInt8} {i : Nat} {c : UInt8} (h : s[i]? = some c) : (s.take (i + 1)).count 47 = (s.take i).count 47 + if c = 47 then 1 else 0 := by
  rw [List.take_add_one, h, List.count_append]
  congr 1
  show [c].count 47 = _
  rw [List.count_singleton]
  by_cases hc : c = 47
  · rw [hc]; rfl
  · rw [if_neg hc, if_neg (by simpa using hc)]
set_option maxRecDepth 100000 in
set_option maxHeartbeats 2000000 in
theorem parts11_any {w : World} (C : PathI w) (s t : List UInt8) : Calls Tryd.prog 8 #[S s, S t] w fun e w' => e = .returned (.bool true) ∧ Below w.heap.size w w' := by
  have HC := Lib.hid C
  have HAW := Lib.hid (awake11_any C)
  have hlS := run_len_S (P := Tryd.prog) Tryd.underlying9 3 s
  have hlT := run_len_S (P := Tryd.prog) Tryd.underlying9 3 t
  obtain ⟨LS, hLS⟩ : ∃ L, L = s.length := ⟨_, rfl⟩
  obtain ⟨LT, hLT⟩ : ∃ L, L = t.length := ⟨_, rfl⟩
  rw [← hLS] at hlS
  rw [← hLT] at hlT
  have HL := Lib.hid (And.intro hLS hLT)
  clear C hLS hLT
  go_enter Tryd.func8, Tryd.ntmps8
  go_wp2_with fail
  refine HAW.out.mono ?_
  rintro e W1 ⟨rfl, hB⟩
  have H1 := Lib.hid hB
  clear hB HAW
  by_cases h1 : 600 < LS
  · have g1 : decide ((600 : Int) < (LS : Int)) = true := decide_eq_true (by omega)
    go_wp2
    go_ret
    exact ⟨rfl, H1.out⟩
  have g1 : decide ((600 : Int) < (LS : Int)) = false := decide_eq_false (by omega)
  by_cases h2 : 600 < LT
  · have g2 : decide ((600 : Int) < (LT : Int)) = true := decide_eq_true (by omega)
    go_wp2
    go_ret
    exact ⟨rfl, H1.out⟩
  have g2 : decide ((600 : Int) < (LT : Int)) = false := decide_eq_false (by omega)
  have HLB : Hid (s.length ≤ 600 ∧ t.length ≤ 600) := Lib.hid ⟨by rw [← HL.out.1]; omega, by rw [← HL.out.2]; omega⟩
  obtain ⟨A, hA⟩ : ∃ A, A = splitF s := ⟨_, rfl⟩
  obtain ⟨D, hD⟩ : ∃ D, D = splitF t := ⟨_, rfl⟩
  obtain ⟨E, hE⟩ : ∃ E, E = splitF (s ++ t) := ⟨_, rfl⟩
  have HA := Lib.hid hA.symm
  have HD := Lib.hid hD.symm
  have HE := Lib.hid hE.symm
  obtain ⟨za, hza⟩ : ∃ z, z = A.isSome := ⟨_, rfl⟩
  obtain ⟨zd, hzd⟩ : ∃ z, z = D.isSome := ⟨_, rfl⟩
  obtain ⟨ze, hze⟩ : ∃ z, z = E.isSome := ⟨_, rfl⟩
  have hs1 := fun W hW => split_at HC.out s A (by have := HLB.out; omega) HA.out W hW
  have hs2 := fun W hW => split_at HC.out t D (by have := HLB.out; omega) HD.out W hW
  have hs3 := fun W hW => split_at HC.out (s ++ t) E (by rw [List.length_append]; have := HLB.out; omega) HE.out W hW
  rw [← hza] at hs1
  rw [← hzd] at hs2
  rw [← hze] at hs3
  have HS1 := Lib.hid hs1
  have HS2 := Lib.hid hs2
  have HS3 := Lib.hid hs3
  have HZ := Lib.hid (And.intro hza (And.intro hzd hze))
  have hL6 : LS ≤ 600 := by omega
  have zz : binOp .add 9 (S s) (S t) = pure (S (s ++ t)) := S_add 9 s t (by have := HLB.out; omega)
  have hlST := run_len_S (P := Tryd.prog) Tryd.underlying9 3 (s ++ t)
  rw [show ((s ++ t).length : Int) = ((LS + LT : Nat) : Int) by rw [List.length_append, HL.out.1, HL.out.2]] at hlST
  obtain ⟨LST, hLST⟩ : ∃ L, L = LS + LT := ⟨_, rfl⟩
  rw [← hLST] at hlST
  obtain ⟨st, hst⟩ : ∃ x, x = s ++ t := ⟨_, rfl⟩
  rw [← hst] at zz hlST HS3
  have HLST := Lib.hid hLST
  clear hA hD hE hza hzd hze hs1 hs2 hs3 h1 h2 hst hLST
  go_wp2_with fail
  refine (HS1.out W1 H1.out).mono ?_
  rintro e W2 ⟨VA, rfl, hX⟩
  have H2 := Lib.hid (And.intro (H1.out.trans (hX.2.mono H1.out.size)) hX)
  clear hX HS1
  go_wp2_with fail
  refine (HS2.out W2 H2.out.1).mono ?_
  rintro e W3 ⟨VD, rfl, hX⟩
  have H3 := Lib.hid (And.intro (H2.out.1.trans (hX.2.mono H2.out.1.size)) (And.intro (H2.out.2.below hX.2) hX))
  clear hX HS2 H2
  have hlA := fun w' => (ta_own H3.out.2.1.1).choose_spec.len 3 w'
  obtain ⟨NA, hNA⟩ : ∃ N, N = (A.getD []).length := ⟨_, rfl⟩
  rw [← hNA] at hlA
  have HNA := Lib.hid hNA
  clear hNA
  go_wp2_with fail
  go_loopw [9, 10] (fun nv iv wr => ∃ (i n : Nat), i ≤ LS ∧ n ≤ i ∧ nv = .int .i64 (n : Int) ∧ iv = .int .i64 (i : Int) ∧ wr = W3 ∧ Hid (n = (s.take i).count 47)) (fun _ iv _ => LS - (intOf iv).toNat)
  case atStart => exact ⟨0, 0, Nat.zero_le _, Nat.le_refl _, rfl, rfl, rfl, Lib.hid (by simp)⟩
  case round =>
    obtain ⟨i, n, hi, hni, rfl, rfl, hwr, HN⟩ := hrel
    subst hwr
    have hwi : IntKind.i64.wrap ((i : Int) + 1) = (i : Int) + 1 := by rw [IntKind.wrap_i64]; omega
    have hwn : IntKind.i64.wrap ((n : Int) + 1) = (n : Int) + 1 := by rw [IntKind.wrap_i64]; omega
    by_cases hlt : i < LS
    case pos =>
      have g3 : decide ((i : Int) < (LS : Int)) = true := decide_eq_true (by omega)
      obtain ⟨c, hc⟩ : ∃ c, s[i]? = some c := ⟨s[i]'(by rw [← HL.out.1]; exact hlt), List.getElem?_eq_getElem _⟩
      have hidx : ∀ w, (Instr.index 9 (S s) (.int .i64 (i : Int))).run Tryd.prog w = .ok (B c) w := fun w => index_S (P := Tryd.prog) Tryd.underlying9 s i c hc w
      have p1 := B_eqlN 5 c 47
      by_cases h47 : c = 47
      · rw [show ((c.toNat : Int) == 47) = true by rw [h47]; rfl] at p1
        have HX : Hid (n + 1 = (s.take (i + 1)).count 47) := Lib.hid (by rw [count_next hc, if_pos h47, HN.out])
        clear hc h47
        go_wp2
        exact ⟨⟨i + 1, n + 1, by omega, by omega, by go_num, by go_num, by trivial, HX⟩, by simp [intOf]; omega⟩
      · rw [show ((c.toNat : Int) == 47) = false from B_eqk c 47 (by decide) h47] at p1
        have HX : Hid (n = (s.take (i + 1)).count 47) := Lib.hid (by rw [count_next hc, if_neg h47, HN.out, Nat.add_zero])
        clear hc h47
        go_wp2
        exact ⟨⟨i + 1, n, by omega, by omega, by first | rfl | go_num, by go_num, by trivial, HX⟩, by simp [intOf]; omega⟩
    case neg =>
      obtain rfl : i = LS := by omega
      have g3 : decide ((i : Int) < (i : Int)) = false := decide_eq_false (by omega)
      have HCN : Hid (za = true → NA = n) := Lib.hid fun h => by
        rw [HZ.out.1] at h
        cases hA : A with
        | none => rw [hA] at h; cases h
        | some a =>
          have h1 := split_count (HA.out.trans hA)
          rw [HNA.out, hA, HN.out, HL.out.1, List.take_length]
          exact h1
      cases za with
      | false =>
        go_wp2_with fail
        refine (HS3.out wr H3.out.1).mono ?_
        rintro e W4 ⟨VE, rfl, hX⟩
        have H4 := Lib.hid (H3.out.1.trans (hX.2.mono H3.out.1.size))
        clear hX HS3
        go_wp2
        go_ret
        exact ⟨rfl, H4.out⟩
      | true =>
      have hne := HCN.out rfl
      subst hne
      have g4 : ((NA : Int) != (NA : Int)) = false := by simp
      cases zd with
      | false =>
        go_wp2_with fail
        refine (HS3.out wr H3.out.1).mono ?_
        rintro e W4 ⟨VE, rfl, hX⟩
        have H4 := Lib.hid (H3.out.1.trans (hX.2.mono H3.out.1.size))
        clear hX HS3
        go_wp2
        go_ret
        exact ⟨rfl, H4.out⟩
      | true =>
      by_cases h5 : 512 < LST
      · have g5 : decide ((512 : Int) < (LST : Int)) = true := decide_eq_true (by omega)
        go_wp2_with fail
        refine (HS3.out wr H3.out.1).mono ?_
        rintro e W4 ⟨VE, rfl, hX⟩
        have H4 := Lib.hid (H3.out.1.trans (hX.2.mono H3.out.1.size))
        clear hX HS3
        go_wp2
        go_ret
        exact ⟨rfl, H4.out⟩
      have g5 : decide ((512 : Int) < (LST : Int)) = false := decide_eq_false (by omega)
      obtain ⟨la, hla⟩ : ∃ a, A = some a := by
        cases hA : A with
        | none => have := HZ.out.1; rw [hA] at this; cases this
        | some a => exact ⟨a, rfl⟩
      obtain ⟨ld, hld⟩ : ∃ a, D = some a := by
        cases hD : D with
        | none => have := HZ.out.2.1; rw [hD] at this; cases this
        | some a => exact ⟨a, rfl⟩
      subst hla hld
      have he2 := split_two HA.out HD.out (by rw [← HL.out.1, ← HL.out.2, ← HLST.out]; omega)
      have hEs : E = some (la ++ ld) := HE.out.symm.trans he2
      subst hEs
      have HPA := Lib.hid (split_some HA.out)
      have HPD := Lib.hid (split_some HD.out)
      obtain rfl : ze = true := HZ.out.2.2
      clear he2
      go_wp2_with fail
      refine (HS3.out wr H3.out.1).mono ?_
      rintro e W4 ⟨VE, rfl, hX⟩
      have H4 : Hid (Below w.heap.size w W4 ∧ TxAt W1 VA la W4 ∧ TxAt W2 VD ld W4 ∧ TxAt wr VE (la ++ ld) W4) := Lib.hid (And.intro (H3.out.1.trans (hX.2.mono H3.out.1.size)) (And.intro (H3.out.2.1.below hX.2) (And.intro (H3.out.2.2.below hX.2) hX)))
      clear hX HS3
      have HF : Hid (la.length ≤ 600 ∧ ld.length ≤ 600 ∧ 0 < la.length ∧ 0 < ld.length) := Lib.hid (by
        have h1 := HPA.out.2.2.1
        have h2 := HPD.out.2.2.1
        have h3 := HLB.out
        exact ⟨by omega, by omega, List.length_pos_iff.2 HPA.out.2.2.2.2, List.length_pos_iff.2 HPD.out.2.2.2.2⟩)
      obtain ⟨ga, qa, hva, -, hgal, hra⟩ := H4.out.2.1.1.form (fun e => by have h := HF.out.2.2.1; have e2 : la.map S = [] := e; rw [List.map_eq_nil_iff.1 e2] at h; simp at h)
      obtain ⟨gd, qd, hvd, -, hgdl, hrd⟩ := H4.out.2.2.1.1.form (fun e => by have h := HF.out.2.2.2; have e2 : ld.map S = [] := e; rw [List.map_eq_nil_iff.1 e2] at h; simp at h)
      rw [List.length_map] at hva hvd
      subst hva hvd
      have HCA : Hid (∀ j u, la[j]? = some u → (W4.alloc (.cells #[] 9)).cell? ⟨ga, j, none⟩ = some (S u)) := Lib.hid fun j u hu => by
        have h := hra j (S u) (by rw [List.getElem?_map, hu]; rfl)
        rw [Nat.zero_add] at h
        rw [World.cell?_of_block (w := W4) (heap_alloc_old W4 _ hgal)]; exact h
      have HCD : Hid (∀ j u, ld[j]? = some u → W4.cell? ⟨gd, j, none⟩ = some (S u)) := Lib.hid fun j u hu => by have := hrd j (S u) (by rw [List.getElem?_map, hu]; rfl); rwa [Nat.zero_add] at this
      have HGD := Lib.hid hgdl
      have HSZ : Hid (W4.heap.size ≤ (W4.alloc (.cells #[] 9)).heap.size ∧ (W4.alloc (.cells #[] 9)).heap.size = W4.heap.size + 1) := Lib.hid (by rw [alloc_size]; exact ⟨by omega, rfl⟩)
      have HE5 := Lib.hid (own_empty W4)
      clear hra hrd hgal hgdl
      have HSS : Hid (∀ W, (W4.alloc (.cells #[] 9)).grownBy W (some W4.heap.size) → W4.heap.size ≤ W.heap.size) := Lib.hid fun W hW => Nat.le_trans HSZ.out.1 hW.size
      go_wp2_with (first
        | (at_builtin; refine wpList_addG (by rfl) (.tmp 75) (.tmp 76) rfl W4.heap.size _ rfl [] la HE5.out ga qa rfl HCA.out HF.out.2.2.1 (by have := HF.out; simp; omega) HSZ.out.1 ?_; intro g7 c7 W7 o2 g2; have H7 : Hid (W7.ownsRow W4.heap.size 9 1 (.slice (some ⟨g7, 0, none⟩) la.length c7) la.length (la.map S) ∧ (W4.alloc (.cells #[] 9)).grownBy W7 (some W4.heap.size)) := Lib.hid ⟨o2, g2⟩; clear o2 g2)
        | (at_builtin; refine wpList_addG (by rfl) (.tmp 77) (.tmp 78) rfl W4.heap.size _ rfl la ld H7.out.1 gd qd rfl (cells_after HCD.out HGD.out H7.out.2) HF.out.2.2.2 (by have := HF.out; omega) (HSS.out _ H7.out.2) ?_; intro g9 c9 W9 o4 g4; have H9 : Hid (W9.ownsRow W4.heap.size 9 1 (.slice (some ⟨g9, 0, none⟩) (la ++ ld).length c9) (la ++ ld).length ((la ++ ld).map S) ∧ W7.grownBy W9 (some g7)) := Lib.hid ⟨o4, g4⟩; clear o4 g4)
        | fail)
      have HB9 : Hid (Below W4.heap.size W4 W9) := Lib.hid ((((Below.refl _ W4).alloc (Nat.le_refl _) _).grown H7.out.2 HSZ.out.1 (fun k e => by cases e; exact Nat.le_refl _)).grown H9.out.2 (HSS.out _ H7.out.2) (fun k e => (H7.out.1.lt k e).1))
      have H10 := Lib.hid (And.intro (H4.out.1.trans (HB9.out.mono H4.out.1.size)) (H4.out.2.2.2.below HB9.out))
      have hrow := H9.out.1
      rw [List.length_append] at hrow
      have HROW : Hid (∃ b, TA W9 (.slice (some ⟨g9, 0, none⟩) (la.length + ld.length) c9) (la ++ ld) b 0) := Lib.hid (ta_rowO (by rw [List.length_append]; exact hrow))
      clear hrow
      have HSA := Lib.hid (same_at (la ++ ld) (by rw [List.length_append]; have := HF.out; omega) VE (.slice (some ⟨g9, 0, none⟩) (la.length + ld.length) c9) W9 wr w H10.out.2 (by obtain ⟨bb, hb⟩ := HROW.out; exact ⟨bb, 0, hb⟩))
      first | refine HSA.out.mono ?_ | (go_wp2_with fail; refine HSA.out.mono ?_) | (rw [List.length_append]; refine HSA.out.mono ?_)
      rintro e W11 ⟨rfl, hB⟩
      have H11 := Lib.hid (H10.out.1.trans (hB.mono H10.out.1.size))
      clear hB HSA
      go_wp2
      go_ret
      exact ⟨rfl, H11.out⟩
end Go.Proofs.YtmklgjbfdaleiaaDoor
