/- The landed Right walked. (mktv.py writes it.) -/
import Derived.Test.YtgoaljnfegaldaaDoorTv1
import Derived.Test.YtgoaljnfegaldaaDoorMs
import Derived.Carry
namespace Go.Proofs.YtgoaljnfegaldaaDoor
open Go.RowKit
attribute [local go_sem] store_one S_match S_store eguard_BN nguard_BN B_eqlN B_neqN

theorem prefix_any (s : Txt) (w : World) : Calls Tryd.prog 30 #[S s, .string ⟨#[47]⟩] w fun e w' => e = .returned (.bool (s[0]? == some 47)) ∧ w' = w := by
  refine (Tryd.strings_HasPrefix ⟨s.toArray⟩ ⟨#[47]⟩ w).mono ?_
  rintro e w' ⟨rfl, rfl⟩
  refine ⟨?_, rfl⟩
  have : Lib.hasPrefix s [47] = (s[0]? == some 47) := by
    cases s with
    | nil => rfl
    | cons c r =>
      rw [Bool.eq_iff_iff]
      simp [Lib.hasPrefix]
      exact eq_comm
  rw [← this]
/-- Names so far, in the map of block m; W: where the row of segments was made. -/
structure RtAt (W : World) (l : List Txt) (i : Nat) (wr : World) : Prop where
  set : SMap Tryd.prog 9 wr W.heap.size i (namedB (l.take i))
  bel : Below W.heap.size W wr
  ok : segsOk [] l = segsOk (l.take i) (l.drop i)
section
variable {W wr w' : World} {l : List Txt} {i : Nat}
theorem RtAt.lit {s : Txt} (h : RtAt W l i wr) (hl : l[i]? = some s) (hn : s ≠ []) (hk : kindS s = 0) : RtAt W l (i + 1) wr :=
  ⟨(h.set.mono (Nat.le_succ i)).to fun x => by rw [(drop_at hl).2, named_lit hk], h.bel, h.ok.trans (segs_lit hl hn hk)⟩
theorem RtAt.more {s : Txt} (h : RtAt W l i wr) (hl : l[i]? = some s) (hn : s ≠ []) (hk : kindS s ≠ 0) (h1 : nameS (s.drop 1) = true) (h2 : kindS s = 1 ∨ l.length ≤ i + 1) (h3 : namedB (l.take i) (s.drop 1) = false)
    (hs : SMap Tryd.prog 9 w' W.heap.size (i + 1) (addF (namedB (l.take i)) (s.drop 1))) (hb : Below W.heap.size W w') : RtAt W l (i + 1) w' := by
  refine ⟨hs.to fun x => by rw [(drop_at hl).2, named_name hk]; rfl, hb, h.ok.trans ?_⟩
  rw [segs_name hl hn hk, h1, h3]
  have : (kindS s == 1 || decide (l.length ≤ i + 1)) = true := by
    rw [Bool.or_eq_true, beq_iff_eq, decide_eq_true_eq]; exact h2
  rw [this]; rfl
theorem RtAt.no {s : Txt} (h : RtAt W l i wr) (hl : l[i]? = some s) (hn : s ≠ []) (hk : kindS s ≠ 0) (hb : nameS (s.drop 1) = false ∨ (kindS s ≠ 1 ∧ i + 1 < l.length) ∨ namedB (l.take i) (s.drop 1) = true) : segsOk [] l = false := by
  rw [h.ok, segs_name hl hn hk]
  rcases hb with e | ⟨e1, e2⟩ | e
  · rw [e]; rfl
  · have : (kindS s == 1 || decide (l.length ≤ i + 1)) = false := by
      rw [Bool.or_eq_false_iff]; exact ⟨beq_eq_false_iff_ne.2 e1, decide_eq_false (by omega)⟩
    rw [this, Bool.and_false]; rfl
  · rw [e]; simp
theorem RtAt.below (h : RtAt W l i wr) (hb : Below wr.heap.size wr w') : RtAt W l i w' := ⟨h.set.below hb, h.bel.trans (hb.mono h.bel.size), h.ok⟩
theorem below_put {b : Nat} {w w' : World} (hg : w.grownBy w' (some b)) (hb : b ≤ w.heap.size) : Below b w w' := below_grown (Below.refl _ _) hg (fun k h => by injection h with h; omega) hb
theorem RtAt.empty (h : RtAt W l i wr) (hl : l[i]? = some []) : segsOk [] l = false := by rw [h.ok, segs_empty hl]
theorem RtAt.all (h : RtAt W l l.length wr) : segsOk [] l = true := by rw [h.ok, List.drop_length]; rfl
end
theorem zeroU : ∀ w, (zeroValue 80).run Tryd.prog w = .ok (.agg #[]) w := (zero_of_info (n := 0) (by kernel_rfl)).1
set_option maxRecDepth 100000 in
set_option maxHeartbeats 2000000 in
theorem right_any (s : Txt) (hs : s.length ≤ 200) (w : World) (hm : MaxAt w) : Calls Tryd.prog 17 #[S s] w fun e w' => e = .returned (.bool (segsF s).isSome) ∧ Below w.heap.size w w' := by
  have HP := Lib.hid (prefix_any s w)
  by_cases h0 : s[0]? = some 47
  case neg =>
    have hn : segsF s = none := by
      cases hq : segsF s with
      | none => rfl
      | some l => exact absurd (segsF_head hq).1 h0
    rw [hn]
    have HP2 := HP.out
    rw [beq_eq_false_iff_ne.2 h0] at HP2
    have HP2 := Lib.hid HP2
    clear HP h0 hs hm hn
    go_enter Tryd.func17, Tryd.ntmps17
    go_wp2_with fail
    refine HP2.out.mono ?_
    rintro e W ⟨rfl, rfl⟩
    go_wp2
    go_ret
    exact ⟨rfl, Below.refl _ _⟩
  case pos =>
    rw [segsF_cut h0]
    have hsome : ((if segsOk [] (cutS s) = true then some (cutS s) else none : Option (List Txt)).isSome) = segsOk [] (cutS s) := by
      cases segsOk [] (cutS s) <;> rfl
    rw [hsome]
    have HP2 := HP.out
    rw [beq_iff_eq.2 h0] at HP2
    have HP2 := Lib.hid HP2
    have hne : s ≠ [] := by rintro rfl; cases h0
    have HSG := Lib.hid (segments_any s hne (by omega) w hm)
    have hlen : (cutS s).length ≤ 201 := by have := cutS_len s; omega
    have heach : ∀ x ∈ cutS s, x.length ≤ 200 := fun x hx => by have := cutS_each s x hx; omega
    generalize cutS s = l at *
    obtain ⟨PO, hPO⟩ : ∃ PO : Ending → World → Prop, PO = fun e w' => e = .returned (.bool (segsOk [] l)) ∧ Below w.heap.size w w' := ⟨_, rfl⟩
    rw [← hPO]
    have HNO : Hid (segsOk [] l = false → ∀ W, Below w.heap.size w W → PO (.returned (.bool false)) W) := Lib.hid fun h W hW => by rw [hPO, h]; exact ⟨rfl, hW⟩
    have HYES : Hid (segsOk [] l = true → ∀ W, Below w.heap.size w W → PO (.returned (.bool true)) W) := Lib.hid fun h W hW => by rw [hPO, h]; exact ⟨rfl, hW⟩
    have HE := Lib.hid heach
    obtain ⟨N, hN⟩ : ∃ N, N = l.length := ⟨_, rfl⟩
    rw [← hN] at hlen
    have HN := Lib.hid hN
    clear HP h0 hsome hne heach hs hm hPO hN
    go_enter Tryd.func17, Tryd.ntmps17
    go_wp2_with fail
    refine HP2.out.mono ?_
    rintro e w ⟨rfl, rfl⟩
    go_wp2_with fail
    refine HSG.out.mono ?_
    rintro e W ⟨V, b, rfl, hT, hB, -⟩
    have hlV := fun w' => hT.len 3 w'
    rw [← HN.out] at hlV
    have HT := Lib.hid hT
    have HB := Lib.hid hB
    have HI : Hid (RtAt W l 0 (W.alloc (.map #[] 0))) := Lib.hid ⟨smap_made W, row_below _, rfl⟩
    clear hT hB HP2 HSG
    have hmm := @run_makeMap Tryd.prog
    go_wp2
    obtain ⟨W1, hW1⟩ : ∃ W1, W1 = W.alloc (.map #[] 0) := ⟨_, rfl⟩
    rw [← hW1] at HI ⊢
    clear hW1
    go_loopw [18] (fun iv wr => ∃ i : Nat, i ≤ N ∧ iv = .int .i64 (i : Int) ∧ Hid (RtAt W l i wr)) (fun iv _ => N - (intOf iv).toNat)
    case atStart => exact ⟨0, Nat.zero_le _, rfl, HI⟩
    case round =>
      obtain ⟨i, hi, rfl, HR⟩ := hrel
      have HBW := Lib.hid (HB.out.trans (HR.out.bel.mono HB.out.size))
      by_cases hlt : i < N
      case neg =>
        obtain rfl : i = N := by omega
        have g1 : decide ((i : Int) < (i : Int)) = false := decide_eq_false (by omega)
        have HQ := Lib.hid (HYES.out (by have := HR.out; rw [HN.out] at this; exact this.all) wr HBW.out)
        go_wp2
        first | (go_ret2; exact HQ.out) | exact HQ.out
      case pos =>
        have g1 : decide ((i : Int) < (N : Int)) = true := decide_eq_true (by omega)
        obtain ⟨x, hx⟩ : ∃ x, l[i]? = some x := ⟨l[i]'(by have := HN.out; omega), List.getElem?_eq_getElem _⟩
        have hix := fun w' => HT.out.index i (by have := HN.out; omega) w'
        have hcell : wr.cell? ⟨b, 0 + i, none⟩ = some (S x) := (HT.out.below HR.out.bel).cell i x hx
        have hxl : x.length ≤ 200 := HE.out x (List.mem_of_getElem? hx)
        obtain ⟨q, hq⟩ : ∃ q, q = 0 + i := ⟨_, rfl⟩
        rw [← hq] at hix hcell
        have hw1 : IntKind.i64.wrap ((i : Int) + 1) = (i : Int) + 1 := by rw [IntKind.wrap_i64]; omega
        have n1 : ∀ y z, eqGuard .eql 9 y z (S x) (.string ⟨#[]⟩) = pure () := fun y z => guard_S 9 y z x []
        have HX := Lib.hid hx
        clear hq hx
        by_cases he : x = []
        case pos =>
          subst he
          have q1 : binOp .eql 9 (S []) (.string ⟨#[]⟩) = pure (.bool true) := eql_S 9 [] []
          have HQ := Lib.hid (HNO.out (HR.out.empty HX.out) wr HBW.out)
          go_wp2
          first | (go_ret2; exact HQ.out) | exact HQ.out
        case neg =>
          have q1 : binOp .eql 9 (S x) (.string ⟨#[]⟩) = pure (.bool false) := by
            have := eql_S 9 x []
            rw [beq_eq_false_iff_ne.2 he] at this
            exact this
          have HL := Lib.hid (literal_any x he wr)
          go_wp2_with fail
          refine HL.out.mono ?_
          rintro e w2 ⟨rfl, rfl⟩
          clear HL
          by_cases hk : kindS x = 0
          case pos =>
            have HNX : Hid (RtAt W l (i + 1) w2) := Lib.hid (HR.out.lit HX.out he hk)
            have gk : (kindS x == 0) = true := beq_iff_eq.2 hk
            clear he hk
            go_wp2
            exact ⟨⟨i + 1, by omega, by go_num, HNX⟩, by simp [intOf]; omega⟩
          case neg =>
            have gk : (kindS x == 0) = false := beq_eq_false_iff_ne.2 hk
            obtain ⟨c, r, hcr⟩ : ∃ c r, x = c :: r := by
              cases x with
              | nil => exact absurd rfl he
              | cons c r => exact ⟨c, r, rfl⟩
            have hi0 : ∀ w, (Instr.index 9 (S x) (.int .i64 0)).run Tryd.prog w = .ok (B c) w := fun w => index_S Tryd.underlying9 x 0 c (by rw [hcr]; rfl) w
            have hsl : ∀ W, (Instr.slice 9 (S x) (some (.int .i64 1)) none none).run Tryd.prog W = .ok (S (x.drop 1)) W := fun W => slice_drop (P := Tryd.prog) Tryd.underlying9 x 1 (by rw [hcr]; simp) W
            obtain ⟨D, hD⟩ : ∃ D, D = x.drop 1 := ⟨_, rfl⟩
            rw [← hD] at hsl
            have hDl : D.length ≤ 200 := by rw [hD, List.length_drop]; omega
            have HIN := Lib.hid (fun W => isname_any D (by omega) W)
            have HNB : Hid (nameS D = false ∨ (kindS x ≠ 1 ∧ i + 1 < l.length) ∨ namedB (l.take i) D = true → segsOk [] l = false) := Lib.hid fun h => HR.out.no HX.out he hk (by rw [← hD]; exact h)
            have HYB : Hid (nameS D = true → (kindS x = 1 ∨ l.length ≤ i + 1) → namedB (l.take i) D = false → ∀ w', SMap Tryd.prog 9 w' W.heap.size (i + 1) (addF (namedB (l.take i)) D) → Below W.heap.size W w' → RtAt W l (i + 1) w') :=
              Lib.hid fun a1 a2 a3 w' a4 a5 => HR.out.more HX.out he hk (by rw [← hD]; exact a1) a2 (by rw [← hD]; exact a3) (by rw [← hD]; exact a4) a5
            have HDL := Lib.hid hDl
            cases ht : namedB (l.take i) D with
            | true =>
              have HQ : Hid (∀ W, Below w.heap.size w W → PO (.returned (.bool false)) W) := Lib.hid (HNO.out (HNB.out (.inr (.inr ht))))
              have HT1 := Lib.hid ht
              clear ht he hk hcr hD
              go_wp2_with (first
                | (at_lookup; refine wpList_lookS Tryd.underlying9 Tryd.underlying79 zeroU rfl _ _ rfl rfl HR.out.set D rfl (by have := HDL.out; omega) ?_; rw [HT1.out])
                | fail)
              exact HQ.out _ (HBW.out.trans ((row_below _).mono HBW.out.size))
            | false =>
              have HR3 : Hid (RtAt W l i (w2.alloc (.cells #[] 80))) := Lib.hid (HR.out.below (row_below _))
              have HB3 := Lib.hid (HBW.out.trans ((row_below (.cells #[] 80)).mono HBW.out.size))
              have HT1 := Lib.hid ht
              have HQ : Hid (nameS D = false ∨ (kindS x ≠ 1 ∧ i + 1 < N) → ∀ W, Below w.heap.size w W → PO (.returned (.bool false)) W) := Lib.hid fun h => HNO.out (HNB.out (by
                rcases h with h | h
                · exact .inl h
                · exact .inr (.inl (by rw [← HN.out]; exact h))))
              have HY : Hid (nameS D = true → (kindS x = 1 ∨ N ≤ i + 1) → ∀ w', SMap Tryd.prog 9 w' W.heap.size (i + 1) (addF (namedB (l.take i)) D) → Below W.heap.size W w' → RtAt W l (i + 1) w') :=
                Lib.hid fun a1 a2 w' a4 a5 => HYB.out a1 (by rw [← HN.out]; exact a2) ht w' a4 a5
              have hw2 : IntKind.i64.wrap ((N : Int) - 1) = (N : Int) - 1 := by rw [IntKind.wrap_i64]; omega
              have kc := kind_cases c r
              rw [← hcr] at kc
              clear ht he hcr hD HNB HYB
              cases hnm : nameS D with
              | false =>
                have HQ2 := Lib.hid (HQ.out (.inl hnm))
                have HNM := Lib.hid hnm
                clear hnm hk kc
                go_wp2_with (first
                  | (at_lookup; refine wpList_lookS Tryd.underlying9 Tryd.underlying79 zeroU rfl _ _ rfl rfl HR.out.set D rfl (by have := HDL.out; omega) ?_; rw [HT1.out])
                  | (go_at_call 32; refine (HIN.out _).mono ?_; rintro e w' ⟨rfl, rfl⟩; rw [HNM.out])
                  | fail)
                exact HQ2.out _ HB3.out
              | true =>
                have HNM := Lib.hid hnm
                rcases kc with ⟨rfl, h2⟩ | ⟨_, _, g3, rfl, h2⟩ | ⟨_, _, _, _, _, _, h2⟩
                · have HY2 := Lib.hid (HY.out hnm (.inl h2))
                  clear hnm hk h2
                  go_wp2_with (first
                    | (at_lookup; refine wpList_lookS Tryd.underlying9 Tryd.underlying79 zeroU rfl _ _ rfl rfl HR.out.set D rfl (by have := HDL.out; omega) ?_; rw [HT1.out])
                    | (go_at_call 32; refine (HIN.out _).mono ?_; rintro e w' ⟨rfl, rfl⟩; rw [HNM.out])
                    | (at_mapUpdate; refine wpList_putS Tryd.underlying9 Tryd.underlying79 rfl _ _ _ rfl rfl HR3.out.set (by omega) D rfl (by have := HDL.out; omega) rfl ?_; intro w5 h5 h6; have H5 := Lib.hid (HY2.out w5 h5 (HR3.out.bel.trans (below_put h6 HR3.out.bel.size))); clear h5 h6)
                    | fail)
                  exact ⟨⟨i + 1, by omega, by go_num, H5⟩, by simp [intOf]; omega⟩
                · by_cases hlast : i + 1 < N
                  · have g2 : decide ((i : Int) < (N : Int) - 1) = true := decide_eq_true (by omega)
                    have HQ2 := Lib.hid (HQ.out (.inr ⟨by rw [h2]; decide, hlast⟩))
                    clear hnm hk h2
                    go_wp2_with (first
                      | (at_lookup; refine wpList_lookS Tryd.underlying9 Tryd.underlying79 zeroU rfl _ _ rfl rfl HR.out.set D rfl (by have := HDL.out; omega) ?_; rw [HT1.out])
                      | (go_at_call 32; refine (HIN.out _).mono ?_; rintro e w' ⟨rfl, rfl⟩; rw [HNM.out])
                      | fail)
                    exact HQ2.out _ HB3.out
                  · have g2 : decide ((i : Int) < (N : Int) - 1) = false := decide_eq_false (by omega)
                    have HY2 := Lib.hid (HY.out hnm (.inr (by omega)))
                    clear hnm hk h2
                    go_wp2_with (first
                      | (at_lookup; refine wpList_lookS Tryd.underlying9 Tryd.underlying79 zeroU rfl _ _ rfl rfl HR.out.set D rfl (by have := HDL.out; omega) ?_; rw [HT1.out])
                      | (go_at_call 32; refine (HIN.out _).mono ?_; rintro e w' ⟨rfl, rfl⟩; rw [HNM.out])
                      | (at_mapUpdate; refine wpList_putS Tryd.underlying9 Tryd.underlying79 rfl _ _ _ rfl rfl HR3.out.set (by omega) D rfl (by have := HDL.out; omega) rfl ?_; intro w5 h5 h6; have H5 := Lib.hid (HY2.out w5 h5 (HR3.out.bel.trans (below_put h6 HR3.out.bel.size))); clear h5 h6)
                      | fail)
                    exact ⟨⟨i + 1, by omega, by go_num, H5⟩, by simp [intOf]; omega⟩
                · exact absurd h2 hk
end Go.Proofs.YtgoaljnfegaldaaDoor
