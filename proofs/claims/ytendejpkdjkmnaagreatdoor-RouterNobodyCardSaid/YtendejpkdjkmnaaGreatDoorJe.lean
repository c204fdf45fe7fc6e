/- Texts of this proof that several statements share, one behind the other. -/
import Derived.Test.YtendejpkdjkmnaaGreatDoorJd
import Derived.Test.YtendejpkdjkmnaaGreatDoorJa
import Derived.Shelf.RegionOpen
import Derived.Test.YtendejpkdjkmnaaGreatDoorJb
import Derived.Test.YtendejpkdjkmnaaGreatDoorJc
import Derived.Lib.SlicesCompact
import Derived.Lib.RowBridge
import Derived.Lib.Join
import Derived.Sort.KeysCollected
import Derived.Test.YtendejpkdjkmnaaGreatDoorShelf
import Derived.Shelf.SlIter.Collect
import Derived.Shelf.Sort.Plain
import Derived.Shelf.Slices.CompactS
import Derived.Shelf.Strings.OnBuilder
import Derived.Sort.OwnSorted
import Derived.Shelf.Small.Strs
/- The landed New, Len and Add of tries of crier/router.methodss walked. -/
namespace Go.Proofs.YtendejpkdjkmnaaGreatDoor
open Go.RowKit Go.Shelf
attribute [local go_sem] store_one S_match S_store

abbrev vlm : (Option Nat) → Value := Value.map
theorem vlm_one (x : (Option Nat)) : (vlm x).oneCell' = true := rfl
set_option maxRecDepth 100000 in
set_option maxHeartbeats 1000000 in
theorem newm_any (mx : Nat) (hmx : mx ≤ 100) (w : World) : Calls Tryz.prog 24 #[.int .i64 (mx : Int)] w fun e w' => ∃ g F, e = .returned (.pointer (some ⟨g, 0, none⟩)) ∧ RTrie vlm w' F g mx [] ∧ (∀ k, F k → w.heap.size ≤ k) ∧ Below w.heap.size w w' := by
  have HN := Lib.hid (trie_new vlm w mx hmx 78)
  clear hmx
  go_enter Tryz.func24, Tryz.ntmps24
  go_wp2
  go_ret
  exact ⟨w.heap.size, _, rfl, HN.out, fun k hk => by omega, (Below.refl _ w).alloc (Nat.le_refl _) _⟩
section
variable {w : World} {F : Nat → Prop} {g : Nat} {max : Int} {l : Ents (Option Nat)} {R : Nat → Option Role} {N M E : List Key → Option Nat} {here : List Key → Option (Txt × (Option Nat))} {bs : List Nat} {C : Nat} {av : Value}
set_option maxRecDepth 100000 in
set_option maxHeartbeats 1000000 in
theorem lenm_any (h : TrieAt vlm w F g max l R N M E here bs C av) : Calls Tryz.prog 61 #[.pointer (some ⟨g, 0, none⟩)] w fun e w' => e = .returned (.int .i64 (l.length : Int)) ∧ w' = w := by
  have f5 := h.cells.2.1
  have hl := own_len h.own 76 71 3 Tryz.underlying76
  rw [List.length_map, h.bsl] at hl
  clear h
  go_enter Tryz.func61, Tryz.ntmps61
  go_wp2
  go_ret
  exact ⟨rfl, rfl⟩
theorem elemEm : Elem Tryz.prog 71 := elem_of (z := .pointer none) (n := 8) (by kernel_rfl) (by omega) rfl
set_option maxRecDepth 100000 in
set_option maxHeartbeats 2000000 in
theorem addm_any (h : TrieAt vlm w F g max l R N M E here bs C av) (p : Txt) (x : (Option Nat)) (hpl : p.length ≤ 200) (hm : MaxAt w) :
    Calls Tryz.prog 39 #[.pointer (some ⟨g, 0, none⟩), S p, vlm x] w fun e w' => e = .returned (.int .i64 ((addE max l p x).1 : Int)) ∧ ∃ F', RTrie vlm w' F' g max (addE max l p x).2 ∧ Moves F F' w w' := by
  obtain ⟨PO, hPO⟩ : ∃ PO : Ending → World → Prop, PO = fun e w' => e = .returned (.int .i64 ((addE max l p x).1 : Int)) ∧ ∃ F', RTrie vlm w' F' g max (addE max l p x).2 ∧ Moves F F' w w' := ⟨_, rfl⟩
  rw [← hPO]
  have HSAME : Hid (∀ n, addE max l p x = (n, l) → ∀ W, Below w.heap.size w W → PO (.returned (.int .i64 (n : Int))) W) := Lib.hid fun n hn W hB => by
    rw [hPO, hn]; exact ⟨rfl, F, ⟨_, _, _, _, _, _, _, _, h.below hB⟩, Moves.of_below hB⟩
  have HNEW : Hid (addE max l p x = (0, l ++ [(p, x)]) → ∀ W3, Below w.heap.size w W3 → ∀ W F', RTrie vlm W F' g max (l ++ [(p, x)]) → Moves F F' W3 W → PO (.returned (.int .i64 0)) W) := Lib.hid fun hn W3 hB W F' h1 h2 => by
    rw [hPO, hn]; exact ⟨rfl, F', h1, (Moves.of_below hB).trans h2⟩
  have HR := Lib.hid (right_any p hpl w hm)
  have H := Lib.hid h
  have HM := Lib.hid hm
  have HPL := Lib.hid hpl
  clear h hpl hm hPO
  cases hs : segsF p with
  | none =>
    rw [hs] at HR
    have HP := Lib.hid (HSAME.out 8 (by unfold addE; rw [hs]))
    clear hs
    go_enter Tryz.func39, Tryz.ntmps39
    go_wp2_with fail
    refine HR.out.mono ?_
    rintro e W ⟨rfl, hB⟩
    have HB := Lib.hid hB
    clear hB
    go_wp2
    first | (go_ret2; exact HP.out _ HB.out) | exact HP.out _ HB.out
  | some s =>
    rw [hs] at HR
    obtain ⟨h0, hcut, -⟩ := segsF_head hs
    have hsl : s.length ≤ 201 := by rw [hcut]; have := cutS_len p; have := HPL.out; omega
    have hTI := tidy_ok s [] (segsF_head hs).2.2
    have heach : ∀ y ∈ s, y.length ≤ 200 := fun y hy => by rw [hcut] at hy; have := cutS_each p y hy; have := HPL.out; omega
    have hne : p ≠ [] := by rintro rfl; cases h0
    have HTW : Hid (∀ W, Below w.heap.size w W → Calls Tryz.prog 60 #[.pointer (some ⟨g, 0, none⟩), S p] W fun e w' => e = .returned (ptrO (E (keysF s))) ∧ Below W.heap.size W w') := Lib.hid fun W hB =>
      twinm_any (H.out.below hB).nodes p s hs HPL.out (HM.out.below hB)
    have htw := H.out.twin s
    cases hE : E (keysF s) with
    | some eb =>
      rw [hE] at HTW htw
      have HP := Lib.hid (HSAME.out 5 (by unfold addE; rw [hs]; dsimp only; rw [if_pos (by rw [← htw]; rfl)]))
      clear hs h0 hcut hsl heach hne hE htw hTI
      go_enter Tryz.func39, Tryz.ntmps39
      go_wp2_with fail
      refine HR.out.mono ?_
      rintro e W ⟨rfl, hB⟩
      have HB := Lib.hid hB
      clear hB
      go_wp2_with fail
      refine (HTW.out W HB.out).mono ?_
      rintro e W2 ⟨rfl, hB⟩
      have HB2 := Lib.hid (HB.out.trans (hB.mono HB.out.size))
      clear hB
      unfold ptrO
      go_wp2
      first | (go_ret2; exact HP.out _ HB2.out) | exact HP.out _ HB2.out
    | none =>
      rw [hE] at HTW htw
      have HLN : Hid (∀ W, Below w.heap.size w W → Calls Tryz.prog 61 #[.pointer (some ⟨g, 0, none⟩)] W fun e w' => e = .returned (.int .i64 (l.length : Int)) ∧ w' = W) := Lib.hid fun W hB => lenm_any (H.out.below hB)
      obtain ⟨LN, hLN⟩ : ∃ L, L = l.length := ⟨_, rfl⟩
      rw [← hLN] at HLN
      have HSG : Hid (∀ W, Below w.heap.size w W → Calls Tryz.prog 43 #[S p] W fun e w' => ∃ V b, e = .returned V ∧ TA w' V s b 0 ∧ Below W.heap.size W w' ∧ (s = [] ∨ W.heap.size ≤ b)) := Lib.hid fun W hB => by
        have := segments_any p hne (by have := HPL.out; omega) W (HM.out.below hB)
        rw [← hcut] at this
        exact this
      have HE := Lib.hid hE
      have HS := Lib.hid hs
      have HEA := Lib.hid heach
      have HTI := Lib.hid hTI
      by_cases hmx : max ≤ (LN : Int)
      case pos =>
        have gm : decide (max ≤ (LN : Int)) = true := decide_eq_true hmx
        have HP := Lib.hid (HSAME.out 6 (by unfold addE; rw [hs]; dsimp only; rw [if_neg (by rw [← htw]; exact Bool.false_ne_true), if_pos (by rw [← hLN]; exact hmx)]))
        clear hs h0 hcut hsl heach hne hE htw hLN hTI
        go_enter Tryz.func39, Tryz.ntmps39
        go_wp2_with fail
        refine HR.out.mono ?_
        rintro e W ⟨rfl, hB⟩
        have HB := Lib.hid hB
        clear hB
        go_wp2_with fail
        refine (HTW.out W HB.out).mono ?_
        rintro e W2 ⟨rfl, hB⟩
        have HB2 := Lib.hid (HB.out.trans (hB.mono HB.out.size))
        clear hB
        have c0 := (H.out.below HB2.out).cells.1
        unfold ptrO
        go_wp2
        go_quiet (first | (go_at_call 61; exact Calls.quiet_of_same (HLN.out _ (HB2.out.trans ((below_drewN _ _).mono HB2.out.size)))))
        have HB3 := Lib.hid (HB2.out.trans ((below_drewN W2 nq).mono HB2.out.size))
        go_wp2
        first | (go_ret2; exact HP.out _ HB3.out) | exact HP.out _ HB3.out
      case neg =>
        have gm : decide (max ≤ (LN : Int)) = false := decide_eq_false hmx
        have HP := Lib.hid (HNEW.out (by unfold addE; rw [hs]; dsimp only; rw [if_neg (by rw [← htw]; exact Bool.false_ne_true), if_neg (by rw [← hLN]; exact hmx)]))
        have HMX : Hid (¬ max ≤ (l.length : Int)) := Lib.hid (by rw [← hLN]; exact hmx)
        have HSL := Lib.hid hsl
        clear hs h0 hcut heach hne hE htw hLN hTI
        go_enter Tryz.func39, Tryz.ntmps39
        go_wp2_with fail
        refine HR.out.mono ?_
        rintro e W ⟨rfl, hB⟩
        have HB := Lib.hid hB
        clear hB
        go_wp2_with fail
        refine (HTW.out W HB.out).mono ?_
        rintro e W2 ⟨rfl, hB⟩
        have HB2 := Lib.hid (HB.out.trans (hB.mono HB.out.size))
        clear hB
        have c0 := (H.out.below HB2.out).cells.1
        unfold ptrO
        go_wp2
        go_quiet (first | (go_at_call 61; exact Calls.quiet_of_same (HLN.out _ (HB2.out.trans ((below_drewN _ _).mono HB2.out.size)))))
        have HB3 := Lib.hid (HB2.out.trans ((below_drewN W2 nq).mono HB2.out.size))
        clear c0
        go_wp2_with fail
        refine (HSG.out _ HB3.out).mono ?_
        rintro e W3 ⟨V, vb, rfl, hT, hB, hvb⟩
        have HB4 := Lib.hid (HB3.out.trans (hB.mono HB3.out.size))
        have hT3 := H.out.below HB4.out
        have hlV := fun w' => hT.len 3 w'
        obtain ⟨L, hL⟩ : ∃ L, L = s.length := ⟨_, rfl⟩
        rw [← hL] at hlV
        have HL := Lib.hid hL
        have HI : Hid (GrowAt W3 g R N E C max av s 0 g W3) := Lib.hid ⟨R, N, M, hT3.nodes, by rw [List.take_zero]; exact hT3.nodes.root, Grew.refl _ _, fun _ h => h⟩
        have HTG : Hid (∀ (R' : Nat → Option Role) (wr : World), Grew R R' W3 wr → ∀ i y, s[i]? = some y → wr.cell? ⟨vb, 0 + i, none⟩ = some (S y)) := Lib.hid fun R' wr hg i y hy => by
          have hc := hT.cell i y hy
          have hlt := World.block_lt_of_cell? W3 _ hc
          have hge := hvb.resolve_left fun e => by rw [e] at hy; simp at hy
          have hno : ∀ r, R vb ≠ some r := fun r e => by
            have h1 := (H.out.below HB3.out).nodes.lt vb r e
            omega
          rw [World.cell?_of_block (w := W3) (hg.rest vb hlt fun k' => ⟨hno _, hno _⟩)]
          exact hc
        have HT3 := Lib.hid hT3
        have HIX : Hid (∀ i, i < L → ∀ w', (Instr.indexAt 53 V (.int .i64 (i : Int))).run Tryz.prog w' = .ok (.pointer (some ⟨vb, 0 + i, none⟩)) w') := Lib.hid fun i hi w' => hT.index i (by rw [← hL]; exact hi) w'
        clear hT hB hvb hT3 hL
        go_wp2
        have HLL : Hid (L ≤ 201) := Lib.hid (by have := HSL.out; rw [HL.out]; exact this)
        go_loopw [7, 32] (fun nv iv wr => ∃ (i b o : Nat), i ≤ L ∧ nv = .pointer (some ⟨b, o, none⟩) ∧ iv = .int .i64 (i : Int) ∧ Hid (o = offK (keysF (s.take i)) ∧ GrowAt W3 g R N E C max av s i b wr)) (fun _ iv _ => L - (intOf iv).toNat)
        case atStart => exact ⟨0, g, 1, Nat.zero_le _, rfl, rfl, Lib.hid ⟨rfl, HI.out⟩⟩
        case round =>
          obtain ⟨i, b, o, hi, rfl, rfl, HG⟩ := hrel
          have hL201 := HLL.out
          obtain ⟨R', N', M', hn, hNb, hgrew, hdom⟩ := HG.out.2.ex
          by_cases hlt : i < L
          case pos =>
            have g1 : decide ((i : Int) < (L : Int)) = true := decide_eq_true (by omega)
            have hw1 : IntKind.i64.wrap ((i : Int) + 1) = (i : Int) + 1 := by rw [IntKind.wrap_i64]; omega
            obtain ⟨y, hy⟩ : ∃ y, s[i]? = some y := ⟨s[i]'(by have := HL.out; omega), List.getElem?_eq_getElem _⟩
            have hix := HIX.out i hlt
            have hcell := HTG.out R' wr hgrew i y hy
            obtain ⟨q, hq⟩ : ∃ q, q = 0 + i := ⟨_, rfl⟩
            rw [← hq] at hix hcell
            have hyn := (tidy_at HTI.out hy).1
            have hfew := HT3.out.few
            have hgr := growm_any hn (keysF (s.take i)) b hNb y hyn (by have := HEA.out y (List.mem_of_getElem? hy); omega) (by omega)
            rw [← HG.out.1] at hgr
            have HGR := Lib.hid hgr
            have HNX : Hid (∀ b' w', Grown wr g R' N' E (C + i) max av (keysF (s.take i)) (keyS y) b' w' → 0 = offK (keysF (s.take (i + 1))) ∧ GrowAt W3 g R N E C max av s (i + 1) b' w') := Lib.hid fun b' w' h => ⟨by
              have : keysF (s.take i) ++ [keyS y] = keysF (s.take (i + 1)) := by
                rw [(drop_at hy).2]; unfold keysF; rw [List.map_append]; rfl
              rw [← this, offK_snoc], GrowAt.next hy hgrew hdom h⟩
            clear hn hNb hgrew hdom hy hq hyn hfew hgr hL201
            go_wp2_with fail
            refine HGR.out.mono ?_
            rintro e W5 ⟨b', rfl, hG⟩
            have HG5 := Lib.hid (HNX.out b' W5 hG)
            clear hG
            go_wp2
            exact ⟨⟨i + 1, b', 0, by omega, by trivial, by go_num, HG5⟩, by simp [intOf]; omega⟩
          case neg =>
            obtain rfl : i = L := by omega
            have g1 : decide ((i : Int) < (i : Int)) = false := decide_eq_false (by omega)
            have hfin := (hn.node _ b hNb)
            rw [← HG.out.1] at hfin
            have hal := hfin.same (w' := wr.alloc (.cells #[S p, vlm x] 81)) (heap_alloc_old wr _ hfin.lt) (fun m hm => heap_alloc_old wr _ (hn.lt m _ (hn.mR _ m hm).1))
            have f3 := hal.fin.1
            have f4 := hal.fin.2
            have hkl : keysF (s.take i) = keysF s := by rw [HL.out, List.take_length]
            have hks3 := hgrew.size
            have hRb := hn.nR _ b hNb
            have hRg := hn.rootR
            have har : ∀ y, av.ownBlock = some y → R' y = some .ar := fun y hy => hgrew.keep _ _ (HT3.out.ownR y hy)
            have hbav : ∀ y, av.ownBlock = some y → y ≠ b := fun y hy e => by
              have := har y hy
              rw [e, hRb] at this; cases this
            have hgav : ∀ y, av.ownBlock = some y → y ≠ g := fun y hy e => by
              have := har y hy
              rw [e, hRg] at this; cases this
            have hownr : Own 0 av (bs.map ptV) wr := HT3.out.own.of_block hks3 fun y hy => by
              have h0 := HT3.out.ownR y hy
              exact hgrew.rest y (HT3.out.nodes.lt y _ h0) fun k' => ⟨fun e => (by rw [h0] at e; cases e), fun e => (by rw [h0] at e; cases e)⟩
            have hbl := hn.lt b _ hRb
            have hgl := hn.lt g _ hRg
            have hk6 := Keeps.setCell (b := b) (wr.alloc (.cells #[S p, vlm x] 81)) (o + 3) (ptV wr.heap.size)
            obtain ⟨W6, hW6⟩ : ∃ W, W = (wr.alloc (.cells #[S p, vlm x] 81)).setCell ⟨b, o + 3, none⟩ (ptV wr.heap.size) := ⟨_, rfl⟩
            rw [← hW6] at hk6
            have hsz6 : W6.heap.size = wr.heap.size + 1 := by rw [hW6]; simp [World.setCell]
            have hown6 : Own 0 av (bs.map ptV) W6 := hownr.of_block (by omega) fun y hy => by
              have hy0 := hn.lt y _ (har y hy)
              exact (hk6.block y (by rw [alloc_size]; omega) (hbav y hy)).trans (heap_alloc_old wr _ hy0)
            have ht6 : W6.cell? ⟨b, o + 3, none⟩ = some (ptV wr.heap.size) := by
              obtain ⟨cs, tt, hr, _, _, _, h3⟩ := hal.row
              rw [hW6, cell_of_row _ b (o + 3) _ tt (0, 0) (hr.set (o + 3) (ptV wr.heap.size))]
              exact set_at h3
            have hg6 : ∃ cs tt, Row W6 g cs tt ∧ cs[5]? = some av := by
              have h1 := hn.setEnd hNb #[S p, vlm x] 81
              rw [← HG.out.1, ← hW6] at h1
              obtain ⟨cs, tt, hr, _, h5⟩ := h1.top
              exact ⟨cs, tt, hr, h5⟩
            obtain ⟨Wq, hWq⟩ : ∃ W, W = W6.drew := ⟨_, rfl⟩
            have hownq : Own 0 av (bs.map ptV) Wq := by rw [hWq]; exact hown6
            have htq : Wq.cell? ⟨b, o + 3, none⟩ = some (ptV wr.heap.size) := by rw [hWq]; exact ht6
            obtain ⟨csg, ttg, hrg, hg5⟩ : ∃ cs tt, Row Wq g cs tt ∧ cs[5]? = some av := by rw [hWq]; exact hg6
            have hszq : Wq.heap.size = wr.heap.size + 1 := by rw [hWq]; exact hsz6
            have hgq : Wq.cell? ⟨g, 5, none⟩ = some av := by rw [cell_of_row _ g 5 csg ttg (0, 0) hrg]; exact hg5
            have hfew := HT3.out.few
            have hbsl := HT3.out.bsl
            obtain ⟨k7, c7, W7, hr7, ho7, hg7, hk7, hl7⟩ := own_moreP hownq Tryz.underlying76 elemEm 76 (ptV wr.heap.size) rfl (by rw [List.length_map]; omega)
            rw [List.length_map, hbsl] at hr7 ho7
            have hrg7 : Row W7 g csg ttg := row_grown hrg hg7 fun e => hgav g e.symm rfl
            have hg57 : W7.cell? ⟨g, 5, none⟩ = some av := by rw [cell_of_row _ g 5 csg ttg (0, 0) hrg7]; exact hg5
            have hgf7 := hrg7.frozen 5
            have hpush := HT3.out.push HS.out HPL.out x HE.out (by have := HMX.out; omega) HSL.out (b := b) (by
              have := HG.out.2
              rwa [HL.out] at this) 81 ho7 (by
              rw [← hkl, ← HG.out.1, ← hW6, ← hWq]; exact hg7) (hk7.imp id fun e => by omega) hl7
            have HPU := Lib.hid hpush
            obtain ⟨LL, hLL⟩ : ∃ L, L = l.length + 1 := ⟨_, rfl⟩
            rw [← hLL] at hr7 HPU
            have HR7 := Lib.hid hr7
            obtain ⟨eb, heb⟩ : ∃ eb, eb = wr.heap.size := ⟨_, rfl⟩
            rw [← heb] at HR7 htq ht6
            have hgqA : (Wq.alloc (.cells #[.pointer (some ⟨eb, 0, none⟩)] 71)).cell? ⟨g, 5, none⟩ = some av := by
              rw [cell_of_row _ g 5 csg ttg (0, 0) (hrg.alloc _)]; exact hg5
            have HS6 : Hid (((wr.alloc (.cells #[S p, vlm x] 81)).setCell ⟨b, o + 3, none⟩ (.pointer (some ⟨wr.heap.size, 0, none⟩))).cell? ⟨b, o + 3, none⟩ = some (.pointer (some ⟨eb, 0, none⟩))) := Lib.hid (by rw [hW6] at ht6; exact ht6)
            have HSQ : Hid (Wq.cell? ⟨b, o + 3, none⟩ = some (.pointer (some ⟨eb, 0, none⟩))) := Lib.hid htq
            have hbq : b < Wq.heap.size := by omega
            have HSA : Hid ((Wq.alloc (.cells #[.pointer (some ⟨eb, 0, none⟩)] 71)).cell? ⟨b, o + 3, none⟩ = some (.pointer (some ⟨eb, 0, none⟩))) := Lib.hid (by
              rw [World.cell?_of_block (w := Wq) (heap_alloc_old Wq _ hbq)]; exact htq)
            have hs7 : W7.cell? ⟨b, o + 3, none⟩ = some (.pointer (some ⟨eb, 0, none⟩)) := by
              rw [World.cell?_of_block (w := Wq) (hg7.block b hbq fun e => hbav b e.symm rfl)]; exact htq
            have HS7 := Lib.hid hs7
            have HS8 : Hid ((W7.setCell ⟨g, 5, none⟩ (.slice (some ⟨k7, 0, none⟩) LL c7)).cell? ⟨b, o + 3, none⟩ = some (.pointer (some ⟨eb, 0, none⟩))) := Lib.hid (by
              by_cases e : b = g
              · obtain ⟨cs, tt, hr, h3, -⟩ := hn.rowOf hNb
                have ho1 : o + 3 ≠ 5 := by
                  rw [HG.out.1]
                  cases keysF (s.take i) with
                  | nil => decide
                  | cons a r => simp [offK]
                have hrr := hrg7.set 5 (.slice (some ⟨k7, 0, none⟩) LL c7)
                rw [e] at hs7 ⊢
                rw [cell_of_row _ g (o + 3) csg ttg (0, 0) hrg7] at hs7
                rw [cell_of_row _ g (o + 3) _ ttg (0, 0) hrr]
                exact set_far hs7 (Ne.symm ho1)
              · rw [World.cell?_of_block (w := W7) (Below.heap_setCell _ _ _ _ e)]; exact hs7)
            clear hbq hs7
            have HW6 : Hid (Wq = ((wr.alloc (.cells #[S p, vlm x] 81)).setCell ⟨b, o + 3, none⟩ (.pointer (some ⟨wr.heap.size, 0, none⟩))).drew) := Lib.hid (by rw [hWq, hW6])
            have HEQ := Lib.hid heb
            clear hr7 ho7 hg7 hk7 hl7 hpush hLL hrg7 hrg hg5 hg6 hownq hown6 ht6 hsz6 hszq hW6 hWq hk6 hbl hgl hownr hgav hbav har hRg hRb hks3 hfin hal hkl hn hNb hgrew hdom hfew hbsl heb hL201
            go_wp2
            refine wp_region_noPanic ?_
            refine wp_region_held_drew (S := fun wx => wx.cell? ⟨b, o + 3, none⟩ = some (.pointer (some ⟨eb, 0, none⟩))) (by kernel_rfl) HS6.out (fun _ => ?_)
            rw [← HW6.out]
            clear f3 f4
            refine take_at (i := 0) (d := some 47) (v := .pointer (some ⟨g, 0, none⟩)) rfl (by kernel_rfl) (by kernel_rfl) (by kernel_rfl) (fun _ _ _ h => h) (fun oi ho => ?_) HSQ.out ?_
            · obtain rfl := Option.some.inj ho
              exact Or.inl ⟨by rfl, fun wx hSw => by go_simp⟩
            simp only [Act.put, List.setIfInBounds_toArray, List.set_cons_zero, List.set_cons_succ]
            refine take_at (i := 1) (d := some 48) (v := .pointer (some ⟨g, 0, none⟩)) rfl (by kernel_rfl) (by kernel_rfl) (by kernel_rfl) (fun _ _ _ h => h) (fun oi ho => ?_) HSQ.out ?_
            · obtain rfl := Option.some.inj ho
              exact Or.inl ⟨by rfl, fun wx hSw => by go_simp⟩
            simp only [Act.put, List.setIfInBounds_toArray, List.set_cons_zero, List.set_cons_succ]
            refine take_at (i := 2) (d := some 49) (v := .pointer (some ⟨g, 0, none⟩)) rfl (by kernel_rfl) (by kernel_rfl) (by kernel_rfl) (fun _ _ _ h => h) (fun oi ho => ?_) HSQ.out ?_
            · obtain rfl := Option.some.inj ho
              exact Or.inl ⟨by rfl, fun wx hSw => by go_simp⟩
            simp only [Act.put, List.setIfInBounds_toArray, List.set_cons_zero, List.set_cons_succ]
            refine take_at (i := 3) (d := some 50) (v := .pointer (some ⟨g, 5, none⟩)) rfl (by kernel_rfl) (by kernel_rfl) (by kernel_rfl) (fun _ _ _ h => h) (fun oi ho => ?_) HSQ.out ?_
            · obtain rfl := Option.some.inj ho
              exact Or.inl ⟨by rfl, fun wx hSw => by go_simp⟩
            simp only [Act.put, List.setIfInBounds_toArray, List.set_cons_zero, List.set_cons_succ]
            refine take_at (i := 5) (d := some 52) (v := .pointer (some ⟨b, o, none⟩)) rfl (by kernel_rfl) (by kernel_rfl) (by kernel_rfl) (fun _ _ _ h => h) (fun oi ho => ?_) HSQ.out ?_
            · obtain rfl := Option.some.inj ho
              exact Or.inl ⟨by rfl, fun wx hSw => by go_simp⟩
            simp only [Act.put, List.setIfInBounds_toArray, List.set_cons_zero, List.set_cons_succ]
            refine take_at (i := 6) (d := some 53) (v := .pointer (some ⟨b, o, none⟩)) rfl (by kernel_rfl) (by kernel_rfl) (by kernel_rfl) (fun _ _ _ h => h) (fun oi ho => ?_) HSQ.out ?_
            · obtain rfl := Option.some.inj ho
              exact Or.inl ⟨by rfl, fun wx hSw => by go_simp⟩
            simp only [Act.put, List.setIfInBounds_toArray, List.set_cons_zero, List.set_cons_succ]
            refine take_at (i := 7) (d := some 54) (v := .pointer (some ⟨b, o + 3, none⟩)) rfl (by kernel_rfl) (by kernel_rfl) (by kernel_rfl) (fun _ _ _ h => h) (fun oi ho => ?_) HSQ.out ?_
            · obtain rfl := Option.some.inj ho
              exact Or.inl ⟨by rfl, fun wx hSw => by go_simp⟩
            simp only [Act.put, List.setIfInBounds_toArray, List.set_cons_zero, List.set_cons_succ]
            refine take_at (i := 8) (d := some 55) (v := .pointer (some ⟨eb, 0, none⟩)) rfl (by kernel_rfl) (by kernel_rfl) (by kernel_rfl) (fun _ _ _ h => h) (fun oi ho => ?_) HSQ.out ?_
            · obtain rfl := Option.some.inj ho
              exact Or.inl ⟨by rfl, fun wx hSw => by go_simp⟩
            simp only [Act.put, List.setIfInBounds_toArray, List.set_cons_zero, List.set_cons_succ]
            refine ready_load_make (i := 4) (j := 9) (di := some 51) (dj := some 56) (vi := av) (vj := .slice (some ⟨Wq.heap.size, 0, none⟩) 1 1) (w1 := Wq.alloc (.cells #[.pointer (some ⟨eb, 0, none⟩)] 71)) rfl rfl (by kernel_rfl) (by kernel_rfl) (by kernel_rfl) (by decide) (by intro d h e; rw [← h] at e; exact absurd e (by decide)) (fun oi ho => ?_) (fun oj ho a' ha => ?_) HSQ.out HSA.out ?_
            · obtain rfl := Option.some.inj ho
              exact ⟨⟨by rfl, by go_simp⟩, ⟨by rfl, by go_simp⟩⟩
            · obtain rfl := Option.some.inj ho
              rcases ha with rfl | rfl
              · exact ⟨by rfl, by go_simp⟩
              · exact ⟨by rfl, by go_simp⟩
            simp only [Act.put, List.setIfInBounds_toArray, List.set_cons_zero, List.set_cons_succ]
            refine ready_value (i := 10) (d := some 57) (v := .slice (some ⟨k7, 0, none⟩) LL c7) (w' := W7) rfl (by kernel_rfl) (fun oi ho => ?_) HS7.out ?_
            · obtain rfl := Option.some.inj ho
              exact ⟨by rfl, exec_append 76 76 (.tmp 51) (.tmp 56) av (.slice (some ⟨Wq.heap.size, 0, none⟩) 1 1) rfl rfl rfl HR7.out⟩
            simp only [Act.put, List.setIfInBounds_toArray, List.set_cons_zero, List.set_cons_succ]
            refine take_at (i := 11) (d := some 58) (v := .pointer (some ⟨g, 0, none⟩)) rfl (by kernel_rfl) (by kernel_rfl) (by kernel_rfl) (fun _ _ _ h => h) (fun oi ho => ?_) HS7.out ?_
            · obtain rfl := Option.some.inj ho
              exact Or.inl ⟨by rfl, fun wx hSw => by go_simp⟩
            simp only [Act.put, List.setIfInBounds_toArray, List.set_cons_zero, List.set_cons_succ]
            refine take_at (i := 12) (d := some 59) (v := .pointer (some ⟨g, 5, none⟩)) rfl (by kernel_rfl) (by kernel_rfl) (by kernel_rfl) (fun _ _ _ h => h) (fun oi ho => ?_) HS7.out ?_
            · obtain rfl := Option.some.inj ho
              exact Or.inl ⟨by rfl, fun wx hSw => by go_simp⟩
            simp only [Act.put, List.setIfInBounds_toArray, List.set_cons_zero, List.set_cons_succ]
            refine ready_skip (i := 13) (d := none) (w' := W7.setCell ⟨g, 5, none⟩ (.slice (some ⟨k7, 0, none⟩) LL c7)) rfl (by kernel_rfl) (fun oi ho => ?_) HS8.out ?_
            · obtain rfl := Option.some.inj ho
              exact ⟨by rfl, by go_simp⟩
            refine wpAnyH_done (by kernel_rfl) ?_ _
            refine NoPanic.normal ?_
            obtain ⟨F', hf1, hf2⟩ := HPU.out
            have HF := Lib.hid (HP.out W3 HB4.out _ F' hf1 hf2)
            clear hf1 hf2
            go_wp2
            first | (go_ret2; exact HF.out) | exact HF.out
end
end Go.Proofs.YtendejpkdjkmnaaGreatDoor
/- The landed taken walked. (mktv.py writes it.) -/
namespace Go.Proofs.YtendejpkdjkmnaaGreatDoor
open Go.RowKit Go.Shelf
attribute [local go_sem] store_one S_match S_store eguard_BN nguard_BN B_eqlN B_neqN

abbrev Fts := List (Txt × Txt)
/-- A row of fields of one's own. -/
def FT (base : Nat) (V : Value) (fs : Fts) (w : World) : Prop := w.ownsRow base 43 2 V fs.length (fcells fs)
theorem FT.fa {base : Nat} {V : Value} {fs : Fts} {w : World} (h : FT base V fs w) : ∃ g, FA w V fs g 0 ∧ (fs = [] ∨ (base ≤ g ∧ g < w.heap.size)) := by
  obtain ⟨g, h1, h2⟩ := flds_at h
  exact ⟨g, h1.fa, h2⟩
theorem ft_nil (base : Nat) (w : World) : FT base (.slice none 0 0) [] w := ⟨rfl, .inl ⟨rfl, rfl⟩⟩
theorem infoFt : ∃ i, Tryz.prog.info? 43 = some i ∧ i.zero = some (.agg #[.string ⟨#[]⟩, .string ⟨#[]⟩]) ∧ i.size = 2 ∧ i.bytes = 32 := by
  have h : (Tryz.prog.info? 43).map (fun i => (i.zero, i.size, i.bytes)) = some (some (.agg #[.string ⟨#[]⟩, .string ⟨#[]⟩]), 2, 32) := by kernel_rfl
  cases hi : Tryz.prog.info? 43 with
  | none => rw [hi] at h; cases h
  | some i =>
    rw [hi] at h
    simp only [Option.map_some, Option.some.injEq, Prod.mk.injEq] at h
    exact ⟨i, rfl, h.1, h.2.1, h.2.2⟩
theorem run_addT {W : World} {base : Nat} {V : Value} {fs : Fts} (h : FT base V fs W) (hl : fs.length ≤ 1000) (hb : base ≤ W.heap.size) (f : Txt × Txt) (ty : TypeId) :
    ∃ a c W', (Builtin.append_ #[22, 22] ty #[V, .slice (some ⟨W.heap.size, 0, none⟩) 1 1]).run Tryz.prog (W.alloc (.cells #[S f.1, S f.2] 43)) = .ok (.slice a (fs.length + 1) c) W' ∧ FT base (.slice a (fs.length + 1) c) (fs ++ [f]) W' ∧ Below base W W' := by
  obtain ⟨i, hi, hz, hsz, hby⟩ := infoFt
  have h0 := h
  unfold FT at h
  have hr := row_new W #[S f.1, S f.2] 43
  have hal : (W.alloc (.cells #[S f.1, S f.2] 43)).ownsRow base 43 2 V fs.length (fcells fs) := h.alloc _
  obtain ⟨V', W', hrun, hown, hgr, _, _⟩ := run_append_own_at (P := Tryz.prog) (w := W.alloc (.cells #[S f.1, S f.2] 43)) base 22 ty 43 i _ 2 32 Tryz.underlying22 hi hz hsz hby rfl (by decide)
    V fs.length (fcells fs) hal ⟨W.heap.size, 0, none⟩ 1 1 [S f.1, S f.2] rfl (fun j u hu => by
      rw [Addr.add_lit]
      rw [cell_of_row _ _ _ _ _ _ hr]
      simpa using hu) (fun u hu => by
      simp only [List.mem_cons, List.not_mem_nil, or_false] at hu
      rcases hu with rfl | rfl <;> rfl)
    (by simp only [maxLen]; omega) (by omega) (by rw [alloc_size]; omega)
  have hF : FT base V' (fs ++ [f]) W' := by
    unfold FT
    rw [List.length_append, List.length_singleton, fcells_snoc]; exact hown
  obtain ⟨g, hA, -⟩ := hF.fa
  obtain ⟨a, c, hv⟩ := hA.form
  rw [List.length_append, List.length_singleton] at hv
  subst hv
  refine ⟨a, c, W', hrun, hF, ?_⟩
  exact below_grown ((Below.refl _ _).alloc hb _) hgr (fun k hk => (World.ownsRow.lt h0 k hk).1) (by rw [alloc_size]; omega)
/-- What is behind the first i texts of a row. -/
theorem TA.from {w : World} {V : Value} {l : List Txt} {b o : Nat} (h : TA w V l b o) (i : Nat) (hi : i < l.length) :
    ∃ c, (∀ W, (Instr.slice 53 V (some (.int .i64 (i : Int))) none none).run Tryz.prog W = .ok (.slice (some ⟨b, o + i, none⟩) (l.length - i) c) W) ∧ l.length - i ≤ c := by
  rcases h.cap with h0 | ⟨c, hv, hc⟩
  · rw [h0] at hi; cases hi
  · subst hv
    have h1 : i ≤ l.length := by omega
    have hz := Tryz.sizeOf9
    refine ⟨c - i, fun W => ?_, by omega⟩
    have h3 : ¬ c = i := by omega
    simp [Instr.slice, run_underlying Tryz.underlying53, Instr.sliceBounds, run_sliceBound, Result.andThen, hz, h1, Addr.add, h3]
theorem joinP_is (x : Txt) (p : List Txt) : joinP x p = Lib.join (x :: p) [47] := by
  rw [Lib.join_cons]
  unfold joinP Lib.joinTail
  rw [List.flatMap_def]; rfl
theorem join_any {w : World} {b o c n : Nat} {l : List Txt} {V : Value} (h : TA w V l b o) (i : Nat) (x : Txt) (hx : l[i]? = some x) (hn : n = l.length - i) (hc : n ≤ c) (hl : l.length ≤ 100000) (he : ∀ s ∈ l, s.length ≤ 1000000) :
    Calls Tryz.prog 35 #[.slice (some ⟨b, o + i, none⟩) n c, .string ⟨#[47]⟩] w fun e w' => e = .returned (S (joinP x (l.drop (i + 1)))) ∧ Below w.heap.size w w' := by
  have hd := (drop_at hx).1
  have hil := (List.getElem?_eq_some_iff.1 hx).1
  obtain ⟨q, hq⟩ : ∃ q : List ByteArray, q = (l.drop i).map fun s => ⟨s.toArray⟩ := ⟨_, rfl⟩
  have hql : q.length = n := by rw [hq, List.length_map, List.length_drop, hn]
  have hqm : q.map (·.data.toList) = l.drop i := by
    rw [hq, List.map_map]
    exact List.map_id _
  have hcell : ∀ (j : Nat) y, q[j]? = some y → w.cell? ⟨b, o + i + j, none⟩ = some (.string y) := fun j y hy => by
    rw [hq, List.getElem?_map, List.getElem?_drop] at hy
    cases hlj : l[i + j]? with
    | none => rw [hlj] at hy; cases hy
    | some s =>
      rw [hlj] at hy
      obtain rfl := Option.some.inj hy
      rw [Nat.add_assoc]
      exact h.cell (i + j) s hlj
  have hlen : (Lib.join (q.map (·.data.toList)) (⟨#[47]⟩ : ByteArray).data.toList).length ≤ 140737488355328 := by
    rw [hqm, hd]
    show (Lib.join (x :: l.drop (i + 1)) [47]).length ≤ _
    rw [← joinP_is]
    have hx40 := he x (List.mem_of_getElem? hx)
    have hr : ∀ r : List Txt, (∀ s ∈ r, s.length ≤ 1000000) → (r.flatMap fun y => 47 :: y).length ≤ 1000001 * r.length := by
      intro r
      induction r with
      | nil => intro _; simp
      | cons s r ih =>
        intro hs
        have h1 := hs s (List.mem_cons_self ..)
        have h2 := ih fun t ht => hs t (List.mem_cons_of_mem _ ht)
        rw [List.flatMap_cons, List.length_append, List.length_cons, List.length_cons]
        omega
    have := hr (l.drop (i + 1)) fun s hs => he s (List.mem_of_mem_drop hs)
    unfold joinP
    rw [List.length_append]
    rw [List.length_drop] at this
    omega
  have hb := World.block_lt_of_cell? w _ (h.cell i x hx)
  have hJ := Tryz.strings_Join b (o + i) c q ⟨#[47]⟩ w hcell hb (by omega) (by omega) hlen
  rw [hql] at hJ
  refine hJ.mono ?_
  rintro e w' ⟨rfl, hB⟩
  refine ⟨?_, hB⟩
  rw [hqm, hd, joinP_is]
  rfl
/-- What is taken so far; W: where the row of segments was made. -/
structure TkAt (W : World) (l path : List Txt) (acc : Fts) (va : Value) (i : Nat) (wr : World) : Prop where
  own : FT W.heap.size va acc wr
  few : acc.length ≤ i
  bel : Below W.heap.size W wr
  ok : paramsF l path = acc ++ paramsF (l.drop i) (path.drop i)
  fits : i < l.length → fitsF (l.drop i) (path.drop i) = true
section
variable {W wr w' : World} {l path : List Txt} {acc : Fts} {va va' : Value} {i : Nat} {s x : Txt}
theorem TkAt.lit (h : TkAt W l path acc va i wr) (hs : l[i]? = some s) (hk : kindS s = 0) : TkAt W l path acc va (i + 1) wr := by
  obtain ⟨x, hx, hf⟩ := fits_drop hs (h.fits (List.getElem?_eq_some_iff.1 hs).1)
  refine ⟨h.own, Nat.le_succ_of_le h.few, h.bel, h.ok.trans ?_, fun _ => hf (by rw [hk]; decide)⟩
  rw [params_at hs hx, hk, if_neg (by decide), if_neg (by decide)]
theorem TkAt.par (h : TkAt W l path acc va i wr) (hs : l[i]? = some s) (hx : path[i]? = some x) (hk : kindS s = 1) (ho : FT W.heap.size va' (acc ++ [(s.drop 1, x)]) w') (hb : Below W.heap.size wr w') : TkAt W l path (acc ++ [(s.drop 1, x)]) va' (i + 1) w' := by
  obtain ⟨x', hx', hf⟩ := fits_drop hs (h.fits (List.getElem?_eq_some_iff.1 hs).1)
  refine ⟨ho, by have := h.few; rw [List.length_append, List.length_singleton]; omega, h.bel.trans hb, h.ok.trans ?_, fun _ => hf (by rw [hk]; decide)⟩
  rw [params_at hs hx, hk, if_neg (by decide), if_pos rfl, List.append_assoc]
  rfl
theorem TkAt.rst (h : TkAt W l path acc va i wr) (hs : l[i]? = some s) (hx : path[i]? = some x) (hk : kindS s = 2) (hl : l.length = i + 1) (ho : FT W.heap.size va' (acc ++ [(s.drop 1, joinP x (path.drop (i + 1)))]) w') (hb : Below W.heap.size wr w') :
    TkAt W l path (acc ++ [(s.drop 1, joinP x (path.drop (i + 1)))]) va' (i + 1) w' := by
  refine ⟨ho, by have := h.few; rw [List.length_append, List.length_singleton]; omega, h.bel.trans hb, h.ok.trans ?_, fun hl' => by omega⟩
  have hd : l.drop (i + 1) = [] := List.drop_eq_nil_of_le (by omega)
  rw [params_at hs hx, hk, if_pos rfl, hd]
  simp [paramsF]
end
theorem below_drew (w : World) : Below w.heap.size w w.drew := ⟨rfl, rfl, rfl, Nat.le_refl _, fun _ _ => rfl⟩
theorem FT.below {base : Nat} {V : Value} {fs : Fts} {w w' : World} (h : FT base V fs w) (hb : Below w.heap.size w w') : FT base V fs w' := own_below h hb
set_option maxRecDepth 100000 in
set_option maxHeartbeats 2000000 in
theorem taken_any (s : Txt) (l path : List Txt) (Vp : Value) (bp op : Nat) (hsl : s.length ≤ 200) (hl : segsF s = some l) (hfit : fitsF l path = true) (hP : path.length ≤ 100000 ∧ ∀ x ∈ path, x.length ≤ 1000000) (w : World) (hm : MaxAt w) (hT : TA w Vp path bp op) :
    Calls Tryz.prog 31 #[S s, Vp] w fun e w' => ∃ VF gf, e = .returned VF ∧ FA w' VF (paramsF l path) gf 0 ∧ (paramsF l path = [] ∨ (w.heap.size ≤ gf ∧ gf < w'.heap.size)) ∧ Below w.heap.size w w' := by
  obtain ⟨h0, hcut, hok⟩ := segsF_head hl
  have hne : s ≠ [] := by rintro rfl; cases h0
  have hTI := tidy_ok l [] hok
  have HSG := Lib.hid (segments_any s hne (by omega) w hm)
  rw [← hcut] at HSG
  have hlen : l.length ≤ 201 := by rw [hcut]; have := cutS_len s; omega
  obtain ⟨N, hN⟩ : ∃ N, N = l.length := ⟨_, rfl⟩
  rw [← hN] at hlen
  have HN := Lib.hid hN
  have HPT := Lib.hid hT
  have HPO := Lib.hid hP
  have HTI := Lib.hid hTI
  have HFT := Lib.hid hfit
  clear h0 hcut hok hne hTI hsl hl hfit hP hm hT hN
  go_enter Tryz.func31, Tryz.ntmps31
  go_wp2_with fail
  refine HSG.out.mono ?_
  rintro e W ⟨V, b, rfl, hT, hB, -⟩
  have hlV := fun w' => hT.len 3 w'
  rw [← HN.out] at hlV
  have HT := Lib.hid hT
  have HB := Lib.hid hB
  have HI : Hid (TkAt W l path [] (.slice none 0 0) 0 W) := Lib.hid ⟨ft_nil _ W, Nat.le_refl _, Below.refl _ _, rfl, fun _ => HFT.out⟩
  clear hT hB HSG
  go_wp2
  go_loopw [5, 11] (fun av iv wr => ∃ (i : Nat) (a : Option Addr) (n c : Nat), i ≤ N ∧ av = .slice a n c ∧ iv = .int .i64 (i : Int) ∧ Hid (∃ acc, n = acc.length ∧ TkAt W l path acc (.slice a n c) i wr)) (fun _ iv _ => N - (intOf iv).toNat)
  case atStart => exact ⟨0, none, 0, 0, Nat.zero_le _, rfl, rfl, Lib.hid ⟨[], rfl, HI.out⟩⟩
  case round =>
    obtain ⟨i, a, n, c, hi, rfl, rfl, HR0⟩ := hrel
    obtain ⟨acc, hacc, hR⟩ := HR0.out
    by_cases hlt : i < N
    case neg =>
      obtain rfl : i = N := by omega
      have g1 : decide ((i : Int) < (i : Int)) = false := decide_eq_false (by omega)
      have HE : Hid (FT W.heap.size (.slice a n c) (paramsF l path) wr ∧ Below W.heap.size W wr) := Lib.hid (by
        have h1 := hR.ok
        rw [HN.out, List.drop_length, show paramsF [] (path.drop l.length) = [] by simp [paramsF], List.append_nil] at h1
        rw [h1]; exact ⟨hR.own, hR.bel⟩)
      clear hR hacc HR0
      go_wp2
      go_ret
      obtain ⟨g, h1, h2⟩ := HE.out.1.fa
      exact ⟨_, g, rfl, h1, h2.imp id fun h => ⟨by have := HB.out.size; omega, h.2⟩, HB.out.trans (HE.out.2.mono HB.out.size)⟩
    case pos =>
      have g1 : decide ((i : Int) < (N : Int)) = true := decide_eq_true (by omega)
      have hw1 : IntKind.i64.wrap ((i : Int) + 1) = (i : Int) + 1 := by rw [IntKind.wrap_i64]; omega
      obtain ⟨x, hx⟩ : ∃ x, l[i]? = some x := ⟨l[i]'(by have := HN.out; omega), List.getElem?_eq_getElem _⟩
      obtain ⟨hxn, hlast⟩ := tidy_at HTI.out hx
      obtain ⟨p, hp, -⟩ := fits_drop hx (hR.fits (by have := HN.out; omega))
      have hpl : i < path.length := (List.getElem?_eq_some_iff.1 hp).1
      have hix := fun w' => HT.out.index i (by have := HN.out; omega) w'
      have hcell : wr.cell? ⟨b, 0 + i, none⟩ = some (S x) := (HT.out.below hR.bel).cell i x hx
      obtain ⟨q, hq⟩ : ∃ q, q = 0 + i := ⟨_, rfl⟩
      rw [← hq] at hix hcell
      obtain ⟨cc, r, rfl⟩ : ∃ c r, x = c :: r := by
        cases x with
        | nil => exact absurd rfl hxn
        | cons c r => exact ⟨c, r, rfl⟩
      have hi0 : ∀ w, (Instr.index 9 (S (cc :: r)) (.int .i64 0)).run Tryz.prog w = .ok (B cc) w := fun w => index_S Tryz.underlying9 (cc :: r) 0 cc rfl w
      have hsl : ∀ W, (Instr.slice 9 (S (cc :: r)) (some (.int .i64 1)) none none).run Tryz.prog W = .ok (S r) W := fun W => slice_drop (P := Tryz.prog) Tryz.underlying9 (cc :: r) 1 (by simp) W
      have hPT : TA wr Vp path bp op := HPT.out.below (HB.out.trans (hR.bel.mono HB.out.size))
      have hn : n ≤ 201 := by have := hR.few; omega
      have HPT2 := Lib.hid hPT
      have HR := Lib.hid hR
      have HX := Lib.hid (And.intro hx hp)
      have HLA := Lib.hid (And.intro hlast hpl)
      have hszW := hR.bel.size
      have HSZ := Lib.hid hszW
      have HAC := Lib.hid hacc
      rcases kind_cases cc r with ⟨rfl, hk⟩ | ⟨_, g2, _, rfl, hk⟩ | ⟨_, g2, _, _, g3, _, hk⟩
      · obtain ⟨Wq, hWq⟩ : ∃ W, W = wr.drew := ⟨_, rfl⟩
        have hBq : Below wr.heap.size wr Wq := by rw [hWq]; exact below_drew wr
        have hBWq : Below W.heap.size wr Wq := by rw [hWq]; exact (below_drew wr).mono hszW
        obtain ⟨a7, c7, W7, hr7, hF7, hB7⟩ := run_addT (hR.own.below hBq) (by omega) (by have := hBq.size; omega) (r, p) 22
        rw [← hacc] at hr7 hF7
        have HE : Hid (∃ acc', n + 1 = acc'.length ∧ TkAt W l path acc' (.slice a7 (n + 1) c7) (i + 1) W7) := Lib.hid ⟨acc ++ [(r, p)], by rw [List.length_append, List.length_singleton, hacc], hR.par hx hp hk hF7 (hBWq.trans hB7)⟩
        have hixp : ∀ w', (Instr.indexAt 53 Vp (.int .i64 (i : Int))).run Tryz.prog w' = .ok (.pointer (some ⟨bp, op + i, none⟩)) w' := fun w' => hPT.index i hpl w'
        have hat : ∀ W', Below wr.heap.size wr W' → W'.cell? ⟨bp, op + i, none⟩ = some (S p) := fun W' h => (HPT2.out.below h).cell i p HX.out.2
        have s1 := hat wr (Below.refl _ _)
        have hSQ := hat Wq hBq
        obtain ⟨q2, hq2⟩ : ∃ q, q = op + i := ⟨_, rfl⟩
        rw [← hq2] at hixp s1 hSQ
        have hr7' : (Builtin.append_ #[22, 22] 22 #[.slice a n c, .slice (some ⟨Wq.heap.size, 0, none⟩) 1 1]).run Tryz.prog (Wq.alloc (.cells #[S r, S p] 43)) = .ok (.slice a7 (n + 1) c7) W7 := hr7
        have HR7 := Lib.hid hr7'
        have HSQ := Lib.hid hSQ
        have HS7 : Hid (W7.cell? ⟨bp, q2, none⟩ = some (S p)) := Lib.hid (by rw [hq2]; exact (HPT.out.below (HB.out.trans ((hR.bel.trans (hBWq.trans hB7)).mono HB.out.size))).cell i p hp)
        generalize S (58 :: r) = X at *
        clear hr7 hr7' hF7 hB7 hBq hBWq hat hSQ hR hacc HR0 hPT hlast hp hx hxn hk hq hq2 hn hszW hpl
        go_wp2
        refine wp_region_noPanic ?_
        refine wp_region_held_drew (S := fun wx => wx.cell? ⟨bp, q2, none⟩ = some (S p)) (by kernel_rfl) s1 (fun _ => ?_)
        rw [← hWq]
        clear hWq s1
        refine take_at (i := 0) (d := some 20) (v := .slice a n c) rfl (by kernel_rfl) (by kernel_rfl) (by kernel_rfl) (fun _ _ _ h => h) (fun oi ho => ?_) HSQ.out ?_
        · obtain rfl := Option.some.inj ho
          exact Or.inl ⟨by rfl, fun wx hSw => by go_simp⟩
        simp only [Act.put, List.setIfInBounds_toArray, List.set_cons_zero, List.set_cons_succ]
        refine take_at (i := 1) (d := some 21) (v := X) rfl (by kernel_rfl) (by kernel_rfl) (by kernel_rfl) (fun _ _ _ h => h) (fun oi ho => ?_) HSQ.out ?_
        · obtain rfl := Option.some.inj ho
          exact Or.inl ⟨by rfl, fun wx hSw => by go_simp⟩
        simp only [Act.put, List.setIfInBounds_toArray, List.set_cons_zero, List.set_cons_succ]
        refine take_at (i := 2) (d := some 22) (v := S r) rfl (by kernel_rfl) (by kernel_rfl) (by kernel_rfl) (fun _ _ _ h => h) (fun oi ho => ?_) HSQ.out ?_
        · obtain rfl := Option.some.inj ho
          exact Or.inl ⟨by rfl, fun wx hSw => by go_simp⟩
        simp only [Act.put, List.setIfInBounds_toArray, List.set_cons_zero, List.set_cons_succ]
        refine take_at (i := 3) (d := some 23) (v := Vp) rfl (by kernel_rfl) (by kernel_rfl) (by kernel_rfl) (fun _ _ _ h => h) (fun oi ho => ?_) HSQ.out ?_
        · obtain rfl := Option.some.inj ho
          exact Or.inl ⟨by rfl, fun wx hSw => by go_simp⟩
        simp only [Act.put, List.setIfInBounds_toArray, List.set_cons_zero, List.set_cons_succ]
        refine take_at (i := 4) (d := some 24) (v := .int .i64 (i : Int)) rfl (by kernel_rfl) (by kernel_rfl) (by kernel_rfl) (fun _ _ _ h => h) (fun oi ho => ?_) HSQ.out ?_
        · obtain rfl := Option.some.inj ho
          exact Or.inl ⟨by rfl, fun wx hSw => by go_simp⟩
        simp only [Act.put, List.setIfInBounds_toArray, List.set_cons_zero, List.set_cons_succ]
        refine take_at (i := 5) (d := some 25) (v := .pointer (some ⟨bp, q2, none⟩)) rfl (by kernel_rfl) (by kernel_rfl) (by kernel_rfl) (fun _ _ _ h => h) (fun oi ho => ?_) HSQ.out ?_
        · obtain rfl := Option.some.inj ho
          exact Or.inl ⟨by rfl, fun wx hSw => by go_simp⟩
        simp only [Act.put, List.setIfInBounds_toArray, List.set_cons_zero, List.set_cons_succ]
        refine take_at (i := 6) (d := some 26) (v := S p) rfl (by kernel_rfl) (by kernel_rfl) (by kernel_rfl) (fun _ _ _ h => h) (fun oi ho => ?_) HSQ.out ?_
        · obtain rfl := Option.some.inj ho
          exact Or.inl ⟨by rfl, fun wx hSw => by go_simp⟩
        simp only [Act.put, List.setIfInBounds_toArray, List.set_cons_zero, List.set_cons_succ]
        refine take_at (i := 7) (d := some 27) (v := .agg #[S r, S p]) rfl (by kernel_rfl) (by kernel_rfl) (by kernel_rfl) (fun _ _ _ h => h) (fun oi ho => ?_) HSQ.out ?_
        · obtain rfl := Option.some.inj ho
          exact Or.inl ⟨by rfl, fun wx hSw => by go_simp⟩
        simp only [Act.put, List.setIfInBounds_toArray, List.set_cons_zero, List.set_cons_succ]
        have HSA : Hid ((Wq.alloc (.cells #[S r, S p] 43)).cell? ⟨bp, q2, none⟩ = some (S p)) := Lib.hid (by
          rw [(row_below (w := Wq) (.cells #[S r, S p] 43)).cell (World.block_lt_of_cell? Wq _ HSQ.out)]; exact HSQ.out)
        refine ready_value (i := 8) (d := some 28) (v := .slice (some ⟨Wq.heap.size, 0, none⟩) 1 1) (w' := Wq.alloc (.cells #[S r, S p] 43)) rfl (by kernel_rfl) (fun oi ho => ?_) HSA.out ?_
        · obtain rfl := Option.some.inj ho
          exact ⟨by rfl, by go_simp⟩
        simp only [Act.put, List.setIfInBounds_toArray, List.set_cons_zero, List.set_cons_succ]
        refine ready_value (i := 9) (d := some 29) (v := .slice a7 (n + 1) c7) (w' := W7) rfl (by kernel_rfl) (fun oi ho => ?_) HS7.out ?_
        · obtain rfl := Option.some.inj ho
          exact ⟨by rfl, exec_append 22 22 (.tmp 20) (.tmp 28) (.slice a n c) (.slice (some ⟨Wq.heap.size, 0, none⟩) 1 1) rfl rfl rfl HR7.out⟩
        simp only [Act.put, List.setIfInBounds_toArray, List.set_cons_zero, List.set_cons_succ]
        refine take_at (i := 10) (d := some 5) (v := .slice a7 (n + 1) c7) rfl (by kernel_rfl) (by kernel_rfl) (by kernel_rfl) (fun _ _ _ h => h) (fun oi ho => ?_) HS7.out ?_
        · obtain rfl := Option.some.inj ho
          exact Or.inl ⟨by rfl, fun wx hSw => by go_simp⟩
        simp only [Act.put, List.setIfInBounds_toArray, List.set_cons_zero, List.set_cons_succ]
        refine wpAnyH_done (by kernel_rfl) ?_ _
        refine NoPanic.normal ?_
        clear hix
        go_wp2
        exact ⟨⟨i + 1, a7, n + 1, c7, by omega, by trivial, by go_num, HE⟩, by simp [intOf]; omega⟩
      · obtain ⟨Wq, hWq⟩ : ∃ W, W = wr.drew := ⟨_, rfl⟩
        have hBq : Below wr.heap.size wr Wq := by rw [hWq]; exact below_drew wr
        have hBWq : Below W.heap.size wr Wq := by rw [hWq]; exact (below_drew wr).mono hszW
        obtain ⟨c2, hs2, hc2⟩ := hPT.from i hpl
        have HJ := Lib.hid (join_any (hPT.below hBq) i p hp rfl hc2 HPO.out.1 HPO.out.2)
        obtain ⟨n2, hn2⟩ : ∃ n2, n2 = path.length - i := ⟨_, rfl⟩
        rw [← hn2] at hs2 HJ
        obtain ⟨q2, hq2⟩ : ∃ q, q = op + i := ⟨_, rfl⟩
        rw [← hq2] at hs2 HJ
        have HBQ := Lib.hid (And.intro hBq hBWq)
        have HK := Lib.hid (And.intro hk (hlast hk))
        have HNN := Lib.hid hn
        generalize S (42 :: r) = X at *
        clear hBq hBWq hR hacc HR0 hPT hlast hp hx hxn hk hq hq2 hn2 hc2 hn hszW hpl
        go_wp2
        refine wp_region_noPanic ?_
        refine wp_region_held_drew (S := fun _ => True) (by kernel_rfl) trivial (fun _ => ?_)
        rw [← hWq]
        clear hWq
        refine take_at (i := 0) (d := some 32) (v := .slice a n c) rfl (by kernel_rfl) (by kernel_rfl) (by kernel_rfl) (fun _ _ _ h => h) (fun oi ho => ?_) trivial ?_
        · obtain rfl := Option.some.inj ho
          exact Or.inl ⟨by rfl, fun wx hSw => by go_simp⟩
        simp only [Act.put, List.setIfInBounds_toArray, List.set_cons_zero, List.set_cons_succ]
        refine take_at (i := 1) (d := some 33) (v := X) rfl (by kernel_rfl) (by kernel_rfl) (by kernel_rfl) (fun _ _ _ h => h) (fun oi ho => ?_) trivial ?_
        · obtain rfl := Option.some.inj ho
          exact Or.inl ⟨by rfl, fun wx hSw => by go_simp⟩
        simp only [Act.put, List.setIfInBounds_toArray, List.set_cons_zero, List.set_cons_succ]
        refine take_at (i := 2) (d := some 34) (v := S r) rfl (by kernel_rfl) (by kernel_rfl) (by kernel_rfl) (fun _ _ _ h => h) (fun oi ho => ?_) trivial ?_
        · obtain rfl := Option.some.inj ho
          exact Or.inl ⟨by rfl, fun wx hSw => by go_simp⟩
        simp only [Act.put, List.setIfInBounds_toArray, List.set_cons_zero, List.set_cons_succ]
        refine take_at (i := 3) (d := some 35) (v := Vp) rfl (by kernel_rfl) (by kernel_rfl) (by kernel_rfl) (fun _ _ _ h => h) (fun oi ho => ?_) trivial ?_
        · obtain rfl := Option.some.inj ho
          exact Or.inl ⟨by rfl, fun wx hSw => by go_simp⟩
        simp only [Act.put, List.setIfInBounds_toArray, List.set_cons_zero, List.set_cons_succ]
        refine take_at (i := 4) (d := some 36) (v := .int .i64 (i : Int)) rfl (by kernel_rfl) (by kernel_rfl) (by kernel_rfl) (fun _ _ _ h => h) (fun oi ho => ?_) trivial ?_
        · obtain rfl := Option.some.inj ho
          exact Or.inl ⟨by rfl, fun wx hSw => by go_simp⟩
        simp only [Act.put, List.setIfInBounds_toArray, List.set_cons_zero, List.set_cons_succ]
        refine take_at (i := 5) (d := some 37) (v := .slice (some ⟨bp, q2, none⟩) n2 c2) rfl (by kernel_rfl) (by kernel_rfl) (by kernel_rfl) (fun _ _ _ h => h) (fun oi ho => ?_) trivial ?_
        · obtain rfl := Option.some.inj ho
          exact Or.inl ⟨by rfl, fun wx hSw => by go_simp⟩
        simp only [Act.put, List.setIfInBounds_toArray, List.set_cons_zero, List.set_cons_succ]
        refine ready_call (i := 6) (d := some 38) (f := 35) (args := #[.slice (some ⟨bp, q2, none⟩) n2 c2, .string ⟨#[47]⟩]) rfl (by kernel_rfl) (fun oi ho => ?_) ?_
        · obtain rfl := Option.some.inj ho
          exact ⟨by rfl, by go_simp⟩
        refine (HJ.out).mono ?_
        rintro e W5 ⟨rfl, hB5⟩
        obtain ⟨a7, c7, W7, hr7, hF7, hB7⟩ := run_addT ((HR.out.own.below HBQ.out.1).below hB5) (by have := HAC.out; have := HNN.out; omega) (by have := HBQ.out.1.size; have := hB5.size; have := HSZ.out; omega) (r, joinP p (path.drop (i + 1))) 22
        rw [← HAC.out] at hr7 hF7
        have HE : Hid (∃ acc', n + 1 = acc'.length ∧ TkAt W l path acc' (.slice a7 (n + 1) c7) (i + 1) W7) := Lib.hid ⟨acc ++ [(r, joinP p (path.drop (i + 1)))], by rw [List.length_append, List.length_singleton, HAC.out], HR.out.rst HX.out.1 HX.out.2 HK.out.1 HK.out.2 hF7 (HBQ.out.2.trans ((hB5.mono (Nat.le_trans HSZ.out HBQ.out.1.size)).trans hB7))⟩
        generalize joinP p (path.drop (i + 1)) = J at *
        have hr7' : (Builtin.append_ #[22, 22] 22 #[.slice a n c, .slice (some ⟨W5.heap.size, 0, none⟩) 1 1]).run Tryz.prog (W5.alloc (.cells #[S r, S J] 43)) = .ok (.slice a7 (n + 1) c7) W7 := hr7
        have HR7 := Lib.hid hr7'
        clear hr7 hr7' hF7 hB7 hB5
        refine ⟨_, rfl, trivial, ?_⟩
        simp only [Act.put, List.setIfInBounds_toArray, List.set_cons_zero, List.set_cons_succ]
        refine take_at (i := 7) (d := some 39) (v := .agg #[S r, S J]) rfl (by kernel_rfl) (by kernel_rfl) (by kernel_rfl) (fun _ _ _ h => h) (fun oi ho => ?_) trivial ?_
        · obtain rfl := Option.some.inj ho
          exact Or.inl ⟨by rfl, fun wx hSw => by go_simp⟩
        simp only [Act.put, List.setIfInBounds_toArray, List.set_cons_zero, List.set_cons_succ]
        refine ready_value (i := 8) (d := some 40) (v := .slice (some ⟨W5.heap.size, 0, none⟩) 1 1) (w' := W5.alloc (.cells #[S r, S J] 43)) rfl (by kernel_rfl) (fun oi ho => ?_) trivial ?_
        · obtain rfl := Option.some.inj ho
          exact ⟨by rfl, by go_simp⟩
        simp only [Act.put, List.setIfInBounds_toArray, List.set_cons_zero, List.set_cons_succ]
        refine ready_value (i := 9) (d := some 41) (v := .slice a7 (n + 1) c7) (w' := W7) rfl (by kernel_rfl) (fun oi ho => ?_) trivial ?_
        · obtain rfl := Option.some.inj ho
          exact ⟨by rfl, exec_append 22 22 (.tmp 32) (.tmp 40) (.slice a n c) (.slice (some ⟨W5.heap.size, 0, none⟩) 1 1) rfl rfl rfl HR7.out⟩
        simp only [Act.put, List.setIfInBounds_toArray, List.set_cons_zero, List.set_cons_succ]
        refine take_at (i := 10) (d := some 5) (v := .slice a7 (n + 1) c7) rfl (by kernel_rfl) (by kernel_rfl) (by kernel_rfl) (fun _ _ _ h => h) (fun oi ho => ?_) trivial ?_
        · obtain rfl := Option.some.inj ho
          exact Or.inl ⟨by rfl, fun wx hSw => by go_simp⟩
        simp only [Act.put, List.setIfInBounds_toArray, List.set_cons_zero, List.set_cons_succ]
        refine wpAnyH_done (by kernel_rfl) ?_ _
        refine NoPanic.normal ?_
        clear hix
        go_wp2
        exact ⟨⟨i + 1, a7, n + 1, c7, by omega, by trivial, by go_num, HE⟩, by simp [intOf]; omega⟩
      · have HE : Hid (∃ acc', n = acc'.length ∧ TkAt W l path acc' (.slice a n c) (i + 1) wr) := Lib.hid ⟨acc, hacc, hR.lit hx hk⟩
        generalize S (cc :: r) = X at *
        clear hR hacc HR0 hPT hlast hp hx hxn hk hq hn hszW hpl
        go_wp2
        exact ⟨⟨i + 1, a, n, c, by omega, by trivial, by go_num, HE⟩, by simp [intOf]; omega⟩
end Go.Proofs.YtendejpkdjkmnaaGreatDoor
/- The landed Find of tries of crier/router.methodss walked. -/
namespace Go.Proofs.YtendejpkdjkmnaaGreatDoor
open Go.RowKit Go.Shelf
attribute [local go_sem] store_one S_match S_store

section
variable {w : World} {F : Nat → Prop} {g : Nat} {max : Int} {l : Ents (Option Nat)} {R : Nat → Option Role} {N M E : List Key → Option Nat} {here : List Key → Option (Txt × (Option Nat))} {bs : List Nat} {C : Nat} {av : Value}
set_option maxRecDepth 100000 in
set_option maxHeartbeats 2000000 in
theorem findm_any (h : TrieAt vlm w F g max l R N M E here bs C av) (path : List Txt) (Vp : Value) (bp op : Nat) (r : Option (Txt × (Option Nat))) (hT : TA w Vp path bp op) (hP : path.length ≤ 100000 ∧ ∀ x ∈ path, x.length ≤ 1000000) (hr : FindIs l path r) (hm : MaxAt w) :
    Calls Tryz.prog 19 #[.pointer (some ⟨g, 0, none⟩), Vp] w fun e w' => ∃ VF gf o', e = .returned (.tuple #[vlm (fdX none r), VF, S (fdP r), .bool r.isSome]) ∧ FA w' VF (fdF r path) gf o' ∧ (fdF r path = [] ∨ (w.heap.size ≤ gf ∧ gf < w'.heap.size)) ∧ Below w.heap.size w w' := by
  have hfound := find_unique (find_keys h.wf h.keyd path) hr
  have hrel := findK_rel (dom := domN N) h.ents path []
  rw [hfound] at hrel
  have HB := Lib.hid (bestm_any h.nodes path Vp bp op hT hP)
  cases r with
  | none =>
    rw [hrel.none_iff.2 rfl] at HB
    clear h hT hP hr hm hfound hrel
    go_enter Tryz.func19, Tryz.ntmps19
    go_wp2_with fail
    refine HB.out.mono ?_
    rintro e W ⟨rfl, hB⟩
    have HB1 := Lib.hid hB
    clear hB
    unfold ptrO
    go_wp2
    refine bodyPost_ret (results_four rfl _ _ _) rfl ?_
    exact ⟨.slice none 0 0, 0, 0, rfl, (flds_nil _ 0).fa, .inl rfl, HB1.out⟩
  | some e =>
    cases hq : findK (domN N) E [] path with
    | none => rw [hq] at hrel; exact hrel.elim
    | some eb =>
      rw [hq] at HB hrel
      obtain ⟨ty, hrow⟩ := hrel
      obtain ⟨p, x⟩ := e
      obtain ⟨s, hs⟩ := h.wf.segs _ hr.mem
      have hfit : fitsF s path = true := by
        have := hr.fits
        rwa [show segD p = s by unfold segD; rw [hs]; rfl] at this
      have hseg : fdF (some (p, x)) path = paramsF s path := by
        show paramsF (segD p) path = _
        rw [show segD p = s by unfold segD; rw [hs]; rfl]
      rw [hseg]
      have HTK : Hid (∀ W, Below w.heap.size w W → Calls Tryz.prog 31 #[S p, Vp] W fun e w' => ∃ VF gf, e = .returned VF ∧ FA w' VF (paramsF s path) gf 0 ∧ (paramsF s path = [] ∨ (W.heap.size ≤ gf ∧ gf < w'.heap.size)) ∧ Below W.heap.size W w') := Lib.hid fun W hB =>
        taken_any p s path Vp bp op (h.short _ hr.mem) hs hfit hP W (hm.below hB) (hT.below hB)
      have HRW : Hid (∀ W, Below w.heap.size w W → W.cell? ⟨eb, 0, none⟩ = some (S p) ∧ W.cell? ⟨eb, 1, none⟩ = some (vlm x)) := Lib.hid fun W hB => by
        have hr2 := hrow.below hB hrow.lt
        exact ⟨cell_of_row W eb 0 _ ty (0, 0) hr2, cell_of_row W eb 1 _ ty (0, 0) hr2⟩
      generalize paramsF s path = ps at *
      clear h hT hP hr hm hfound hrow hs hfit hseg hq
      go_enter Tryz.func19, Tryz.ntmps19
      go_wp2_with fail
      refine HB.out.mono ?_
      rintro e W ⟨rfl, hB⟩
      have HB1 := Lib.hid hB
      clear hB
      unfold ptrO
      obtain ⟨Wq, hWq⟩ : ∃ Wq, Wq = W.drew := ⟨_, rfl⟩
      have hBq : Below w.heap.size w Wq := by rw [hWq]; exact HB1.out.trans ((below_drew W).mono HB1.out.size)
      have HBQ := Lib.hid hBq
      have HSQ := Lib.hid (HRW.out Wq hBq)
      have hs1 := HRW.out W HB1.out
      have HTQ := Lib.hid (HTK.out Wq hBq)
      have HWQ := Lib.hid hWq
      clear hBq hWq
      go_wp2
      refine wp_region_noPanic ?_
      refine wp_region_held_drew (S := fun wx => wx.cell? ⟨eb, 0, none⟩ = some (S p) ∧ wx.cell? ⟨eb, 1, none⟩ = some (vlm x)) (by kernel_rfl) hs1 (fun _ => ?_)
      rw [← HWQ.out]
      clear hs1
      refine take_at (i := 0) (d := some 20) (v := .pointer (some ⟨eb, 0, none⟩)) rfl (by kernel_rfl) (by kernel_rfl) (by kernel_rfl) (fun _ _ _ h => h) (fun oi ho => ?_) HSQ.out ?_
      · obtain rfl := Option.some.inj ho
        exact Or.inl ⟨by rfl, fun wx hSw => by obtain ⟨hu1, hu2⟩ := hSw; go_simp⟩
      simp only [Act.put, List.setIfInBounds_toArray, List.set_cons_zero, List.set_cons_succ]
      refine take_at (i := 1) (d := some 21) (v := .pointer (some ⟨eb, 0, none⟩)) rfl (by kernel_rfl) (by kernel_rfl) (by kernel_rfl) (fun _ _ _ h => h) (fun oi ho => ?_) HSQ.out ?_
      · obtain rfl := Option.some.inj ho
        exact Or.inl ⟨by rfl, fun wx hSw => by obtain ⟨hu1, hu2⟩ := hSw; go_simp⟩
      simp only [Act.put, List.setIfInBounds_toArray, List.set_cons_zero, List.set_cons_succ]
      refine take_at (i := 2) (d := some 22) (v := .pointer (some ⟨eb, 1, none⟩)) rfl (by kernel_rfl) (by kernel_rfl) (by kernel_rfl) (fun _ _ _ h => h) (fun oi ho => ?_) HSQ.out ?_
      · obtain rfl := Option.some.inj ho
        exact Or.inl ⟨by rfl, fun wx hSw => by obtain ⟨hu1, hu2⟩ := hSw; go_simp⟩
      simp only [Act.put, List.setIfInBounds_toArray, List.set_cons_zero, List.set_cons_succ]
      refine take_at (i := 3) (d := some 23) (v := vlm x) rfl (by kernel_rfl) (by kernel_rfl) (by kernel_rfl) (fun _ _ _ h => h) (fun oi ho => ?_) HSQ.out ?_
      · obtain rfl := Option.some.inj ho
        exact Or.inl ⟨by rfl, fun wx hSw => by obtain ⟨hu1, hu2⟩ := hSw; go_simp⟩
      simp only [Act.put, List.setIfInBounds_toArray, List.set_cons_zero, List.set_cons_succ]
      refine take_at (i := 4) (d := some 24) (v := .pointer (some ⟨eb, 0, none⟩)) rfl (by kernel_rfl) (by kernel_rfl) (by kernel_rfl) (fun _ _ _ h => h) (fun oi ho => ?_) HSQ.out ?_
      · obtain rfl := Option.some.inj ho
        exact Or.inl ⟨by rfl, fun wx hSw => by obtain ⟨hu1, hu2⟩ := hSw; go_simp⟩
      simp only [Act.put, List.setIfInBounds_toArray, List.set_cons_zero, List.set_cons_succ]
      refine take_at (i := 5) (d := some 25) (v := .pointer (some ⟨eb, 0, none⟩)) rfl (by kernel_rfl) (by kernel_rfl) (by kernel_rfl) (fun _ _ _ h => h) (fun oi ho => ?_) HSQ.out ?_
      · obtain rfl := Option.some.inj ho
        exact Or.inl ⟨by rfl, fun wx hSw => by obtain ⟨hu1, hu2⟩ := hSw; go_simp⟩
      simp only [Act.put, List.setIfInBounds_toArray, List.set_cons_zero, List.set_cons_succ]
      refine take_at (i := 6) (d := some 26) (v := .pointer (some ⟨eb, 0, none⟩)) rfl (by kernel_rfl) (by kernel_rfl) (by kernel_rfl) (fun _ _ _ h => h) (fun oi ho => ?_) HSQ.out ?_
      · obtain rfl := Option.some.inj ho
        exact Or.inl ⟨by rfl, fun wx hSw => by obtain ⟨hu1, hu2⟩ := hSw; go_simp⟩
      simp only [Act.put, List.setIfInBounds_toArray, List.set_cons_zero, List.set_cons_succ]
      refine take_at (i := 7) (d := some 27) (v := S p) rfl (by kernel_rfl) (by kernel_rfl) (by kernel_rfl) (fun _ _ _ h => h) (fun oi ho => ?_) HSQ.out ?_
      · obtain rfl := Option.some.inj ho
        exact Or.inl ⟨by rfl, fun wx hSw => by obtain ⟨hu1, hu2⟩ := hSw; go_simp⟩
      simp only [Act.put, List.setIfInBounds_toArray, List.set_cons_zero, List.set_cons_succ]
      refine take_at (i := 8) (d := some 28) (v := Vp) rfl (by kernel_rfl) (by kernel_rfl) (by kernel_rfl) (fun _ _ _ h => h) (fun oi ho => ?_) HSQ.out ?_
      · obtain rfl := Option.some.inj ho
        exact Or.inl ⟨by rfl, fun wx hSw => by obtain ⟨hu1, hu2⟩ := hSw; go_simp⟩
      simp only [Act.put, List.setIfInBounds_toArray, List.set_cons_zero, List.set_cons_succ]
      refine take_at (i := 10) (d := some 30) (v := .pointer (some ⟨eb, 0, none⟩)) rfl (by kernel_rfl) (by kernel_rfl) (by kernel_rfl) (fun _ _ _ h => h) (fun oi ho => ?_) HSQ.out ?_
      · obtain rfl := Option.some.inj ho
        exact Or.inl ⟨by rfl, fun wx hSw => by obtain ⟨hu1, hu2⟩ := hSw; go_simp⟩
      simp only [Act.put, List.setIfInBounds_toArray, List.set_cons_zero, List.set_cons_succ]
      refine take_at (i := 11) (d := some 31) (v := .pointer (some ⟨eb, 0, none⟩)) rfl (by kernel_rfl) (by kernel_rfl) (by kernel_rfl) (fun _ _ _ h => h) (fun oi ho => ?_) HSQ.out ?_
      · obtain rfl := Option.some.inj ho
        exact Or.inl ⟨by rfl, fun wx hSw => by obtain ⟨hu1, hu2⟩ := hSw; go_simp⟩
      simp only [Act.put, List.setIfInBounds_toArray, List.set_cons_zero, List.set_cons_succ]
      refine take_at (i := 12) (d := some 32) (v := .pointer (some ⟨eb, 0, none⟩)) rfl (by kernel_rfl) (by kernel_rfl) (by kernel_rfl) (fun _ _ _ h => h) (fun oi ho => ?_) HSQ.out ?_
      · obtain rfl := Option.some.inj ho
        exact Or.inl ⟨by rfl, fun wx hSw => by obtain ⟨hu1, hu2⟩ := hSw; go_simp⟩
      simp only [Act.put, List.setIfInBounds_toArray, List.set_cons_zero, List.set_cons_succ]
      refine take_at (i := 13) (d := some 33) (v := S p) rfl (by kernel_rfl) (by kernel_rfl) (by kernel_rfl) (fun _ _ _ h => h) (fun oi ho => ?_) HSQ.out ?_
      · obtain rfl := Option.some.inj ho
        exact Or.inl ⟨by rfl, fun wx hSw => by obtain ⟨hu1, hu2⟩ := hSw; go_simp⟩
      simp only [Act.put, List.setIfInBounds_toArray, List.set_cons_zero, List.set_cons_succ]
      refine ready_call (i := 9) (d := some 29) (f := 31) (args := #[S p, Vp]) rfl (by kernel_rfl) (fun oi ho => ?_) ?_
      · obtain rfl := Option.some.inj ho
        exact ⟨by rfl, by go_simp⟩
      refine (HTQ.out).mono ?_
      rintro e W5 ⟨VF, gf, rfl, hF, hg, hB5⟩
      have HB5 := Lib.hid (HBQ.out.trans (hB5.mono HBQ.out.size))
      have HF := Lib.hid hF
      have HG : Hid (ps = [] ∨ (w.heap.size ≤ gf ∧ gf < W5.heap.size)) := Lib.hid (hg.imp id fun h => ⟨Nat.le_trans HBQ.out.size h.1, h.2⟩)
      have HS5 := Lib.hid (HRW.out W5 HB5.out)
      clear hF hg hB5
      refine ⟨_, rfl, HS5.out, ?_⟩
      simp only [Act.put, List.setIfInBounds_toArray, List.set_cons_zero, List.set_cons_succ]
      refine take_at (i := 14) (d := some 4) (v := vlm x) rfl (by kernel_rfl) (by kernel_rfl) (by kernel_rfl) (fun _ _ _ h => h) (fun oi ho => ?_) HS5.out ?_
      · obtain rfl := Option.some.inj ho
        exact Or.inl ⟨by rfl, fun wx hSw => by obtain ⟨hu1, hu2⟩ := hSw; go_simp⟩
      simp only [Act.put, List.setIfInBounds_toArray, List.set_cons_zero, List.set_cons_succ]
      refine take_at (i := 15) (d := some 5) (v := VF) rfl (by kernel_rfl) (by kernel_rfl) (by kernel_rfl) (fun _ _ _ h => h) (fun oi ho => ?_) HS5.out ?_
      · obtain rfl := Option.some.inj ho
        exact Or.inl ⟨by rfl, fun wx hSw => by obtain ⟨hu1, hu2⟩ := hSw; go_simp⟩
      simp only [Act.put, List.setIfInBounds_toArray, List.set_cons_zero, List.set_cons_succ]
      refine take_at (i := 16) (d := some 6) (v := S p) rfl (by kernel_rfl) (by kernel_rfl) (by kernel_rfl) (fun _ _ _ h => h) (fun oi ho => ?_) HS5.out ?_
      · obtain rfl := Option.some.inj ho
        exact Or.inl ⟨by rfl, fun wx hSw => by obtain ⟨hu1, hu2⟩ := hSw; go_simp⟩
      simp only [Act.put, List.setIfInBounds_toArray, List.set_cons_zero, List.set_cons_succ]
      refine take_at (i := 17) (d := some 7) (v := .bool true) rfl (by kernel_rfl) (by kernel_rfl) (by kernel_rfl) (fun _ _ _ h => h) (fun oi ho => ?_) HS5.out ?_
      · obtain rfl := Option.some.inj ho
        exact Or.inl ⟨by rfl, fun wx hSw => by obtain ⟨hu1, hu2⟩ := hSw; go_simp⟩
      simp only [Act.put, List.setIfInBounds_toArray, List.set_cons_zero, List.set_cons_succ]
      refine wpAnyH_done (by kernel_rfl) ?_ _
      refine NoPanic.normal ?_
      go_wp2
      refine bodyPost_ret (results_four rfl _ _ _) rfl ?_
      exact ⟨VF, gf, 0, rfl, HF.out, HG.out, HB5.out⟩
end
end Go.Proofs.YtendejpkdjkmnaaGreatDoor
/- The law's GreatPath, sameFields, wakes (stage 12) walked. (mktb.py writes it.) -/
namespace Go.Proofs.YtendejpkdjkmnaaGreatDoor
open Go.RowKit
attribute [local go_sem] store_one B_match B_store S_match S_store

def greatF (l : List Txt) : Bool := decide (12 < l.length) || l.any fun s => decide (40 < s.length)
theorem great_ok {l : List Txt} (h : greatF l = false) : PathOk l := by
  unfold greatF at h
  rw [Bool.or_eq_false_iff, List.any_eq_false] at h
  exact ⟨by have := of_decide_eq_false h.1; omega, fun s hs => by have := h.2 s hs; rw [decide_eq_true_eq] at this; omega⟩
def bestB (l : Ents Int) (path : List Txt) (e : Txt × Int) : Bool := l.contains e && (fitsF (segD e.1) path && l.all fun f => !fitsF (segD f.1) path || (decide (f = e) || betterF (segD e.1) (segD f.1)))
theorem best_of {l : Ents Int} {path : List Txt} {e : Txt × Int} (h : bestB l path e = true) : FindIs l path (some e) := by
  unfold bestB at h
  rw [Bool.and_eq_true, Bool.and_eq_true, List.all_eq_true] at h
  refine ⟨List.contains_iff_mem.1 h.1, h.2.1, fun f hf hff => ?_⟩
  have := h.2.2 f hf
  rw [hff] at this
  simpa using this
def wk1 : Ents Int := [([47, 97, 47, 58, 120], 2)]
def wk2 : Ents Int := [([47, 97, 47, 58, 120], 2), ([47, 97, 47, 98], 3)]
end Go.Proofs.YtendejpkdjkmnaaGreatDoor
/- A trie and blocks that it does not turn; what else is asked of tries: Set, Get, Len. (mktk.py writes it.) -/
namespace Go.Proofs.YtendejpkdjkmnaaGreatDoor
open Go.RowKit

section
variable {β : Type}
/-- Set: what is wrong, and what there is then. -/
def setE (l : Ents β) (p : Txt) (x : β) : Nat × Ents β := if (segsF p).isNone then (8, l) else if (l.any fun e => e.1 == p) = true then (0, l.map fun e => if e.1 == p then (p, x) else e) else (4, l)
/-- Get: what a pattern has. -/
def getE (l : Ents β) (p : Txt) : Option β := (l.find? fun e => e.1 == p).map (·.2)
structure MoreI (val : β → Value) (zero : β) (st gt ln : FuncId) (w0 : World) (RA : World → (Nat → Prop) → Nat → Int → Ents β → Prop) : Prop where
  set : ∀ {w : World} {F : Nat → Prop} {g : Nat} {max : Int} {l : Ents β} (p : Txt) (x : β), RA w F g max l → Below w0.heap.size w0 w → p.length ≤ 200 →
    Calls Tryz.prog st #[.pointer (some ⟨g, 0, none⟩), S p, val x] w fun e w' => e = .returned (.int .i64 ((setE l p x).1 : Int)) ∧ ∃ F', RA w' F' g max (setE l p x).2 ∧ Moves F F' w w'
  get : ∀ {w : World} {F : Nat → Prop} {g : Nat} {max : Int} {l : Ents β} (p : Txt), RA w F g max l → Below w0.heap.size w0 w → p.length ≤ 200 →
    Calls Tryz.prog gt #[.pointer (some ⟨g, 0, none⟩), S p] w fun e w' => e = .returned (.tuple #[val ((getE l p).getD zero), .bool (getE l p).isSome]) ∧ Below w.heap.size w w'
  len : ∀ {w : World} {F : Nat → Prop} {g : Nat} {max : Int} {l : Ents β}, RA w F g max l → Below w0.heap.size w0 w →
    Calls Tryz.prog ln #[.pointer (some ⟨g, 0, none⟩)] w fun e w' => e = .returned (.int .i64 (l.length : Int)) ∧ Below w.heap.size w w'
/-- A trie whose blocks are new, and blocks that stay as they are. -/
structure KepT (RA : World → (Nat → Prop) → Nat → Int → Ents β → Prop) (w : World) (g : Nat) (max : Int) (l : Ents β) (K : Nat → Prop) (W0 W : World) : Prop where
  ex : ∃ F, RA W F g max l ∧ ∀ k, F k → w.heap.size ≤ k ∧ ¬ K k
  keep : ∀ k, K k → k < W0.heap.size ∧ W.heap[k]? = W0.heap[k]?
  size : W0.heap.size ≤ W.heap.size
  bel : Below w.heap.size w W
variable {val : β → Value} {zero : β} {nw ad fd st gt ln : FuncId} {RA : World → (Nat → Prop) → Nat → Int → Ents β → Prop} {w W W' W0 : World} {g : Nat} {max : Int} {l : Ents β} {K : Nat → Prop}
theorem KepT.of (C : TrieI val zero nw ad fd w RA) (h : OneT RA w g max l W) (ob : Obj) : KepT RA w g max l (fun k => k = W.heap.size) (W.alloc ob) (W.alloc ob) := by
  obtain ⟨⟨F, h1, h2⟩, hB⟩ := h
  exact ⟨⟨F, C.below h1 ((Below.refl _ _).alloc (Nat.le_refl _) _), fun k hk => ⟨h2 k hk, fun e => by have := (C.lt h1).2 k hk; omega⟩⟩, fun k hk => ⟨by rw [hk, alloc_size]; omega, rfl⟩, Nat.le_refl _, hB.alloc hB.size _⟩
theorem KepT.one (h : KepT RA w g max l K W0 W) : OneT RA w g max l W := by
  obtain ⟨⟨F, h1, h2⟩, _, _, hB⟩ := h
  exact ⟨⟨F, h1, fun k hk => (h2 k hk).1⟩, hB⟩
theorem KepT.cell (h : KepT RA w g max l K W0 W) {b : Nat} (hb : K b) (q : Nat) : W.cell? ⟨b, q, none⟩ = W0.cell? ⟨b, q, none⟩ := World.cell?_of_block (w := W0) (h.keep b hb).2
theorem KepT.below (C : TrieI val zero nw ad fd w RA) (h : KepT RA w g max l K W0 W) (hb : Below W.heap.size W W') : KepT RA w g max l K W0 W' := by
  obtain ⟨⟨F, h1, h2⟩, h3, h4, hB⟩ := h
  exact ⟨⟨F, C.below h1 hb, h2⟩, fun k hk => ⟨(h3 k hk).1, (hb.block k (Nat.lt_of_lt_of_le (h3 k hk).1 h4)).trans (h3 k hk).2⟩, Nat.le_trans h4 hb.size, hB.trans (hb.mono hB.size)⟩
theorem KepT.moved {F F' : Nat → Prop} {l' : Ents β} (h2 : ∀ k, F k → w.heap.size ≤ k ∧ ¬ K k) (h3 : ∀ k, K k → k < W0.heap.size ∧ W.heap[k]? = W0.heap[k]?) (h4 : W0.heap.size ≤ W.heap.size) (hB : Below w.heap.size w W) (h1 : RA W' F' g max l') (hm : Moves F F' W W') : KepT RA w g max l' K W0 W' :=
  ⟨⟨F', h1, fun k hk => ⟨hm.from (fun k hk => (h2 k hk).1) hB.size k hk, fun e => by
    rcases hm.foot k hk with h5 | h5
    · exact (h2 k h5).2 e
    · have := (h3 k e).1; omega⟩⟩,
   fun k hk => ⟨(h3 k hk).1, (hm.rest k (Nat.lt_of_lt_of_le (h3 k hk).1 h4) (fun e => (h2 k e).2 hk)).trans (h3 k hk).2⟩, Nat.le_trans h4 hm.size, hB.trans (hm.below (fun k hk => (h2 k hk).1) hB.size)⟩
theorem KepT.add (C : TrieI val zero nw ad fd w RA) (h : KepT RA w g max l K W0 W) (p : Txt) (x : β) (hp : p.length ≤ 200) :
    Calls Tryz.prog ad #[.pointer (some ⟨g, 0, none⟩), S p, val x] W fun e W' => e = .returned (.int .i64 ((addE max l p x).1 : Int)) ∧ KepT RA w g max (addE max l p x).2 K W0 W' := by
  obtain ⟨⟨F, h1, h2⟩, h3, h4, hB⟩ := h
  refine (C.add p x h1 hB hp).mono ?_
  rintro e W' ⟨he, F', h1', hm⟩
  exact ⟨he, KepT.moved h2 h3 h4 hB h1' hm⟩
theorem KepT.set (D : MoreI val zero st gt ln w RA) (h : KepT RA w g max l K W0 W) (p : Txt) (x : β) (hp : p.length ≤ 200) :
    Calls Tryz.prog st #[.pointer (some ⟨g, 0, none⟩), S p, val x] W fun e W' => e = .returned (.int .i64 ((setE l p x).1 : Int)) ∧ KepT RA w g max (setE l p x).2 K W0 W' := by
  obtain ⟨⟨F, h1, h2⟩, h3, h4, hB⟩ := h
  refine (D.set p x h1 hB hp).mono ?_
  rintro e W' ⟨he, F', h1', hm⟩
  exact ⟨he, KepT.moved h2 h3 h4 hB h1' hm⟩
theorem KepT.find (C : TrieI val zero nw ad fd w RA) (h : KepT RA w g max l K W0 W) {path : List Txt} {V : Value} {b q : Nat} (hV : TA W V path b q) (hp : PathOk path) {r : Option (Txt × β)} (hr : FindIs l path r) :
    Calls Tryz.prog fd #[.pointer (some ⟨g, 0, none⟩), V] W fun e W' => ∃ VF gf o', e = .returned (.tuple #[val (fdX zero r), VF, S (fdP r), .bool r.isSome]) ∧ FA W' VF (fdF r path) gf o' ∧ KepT RA w g max l K W0 W' ∧ Below W.heap.size W W' := by
  have h0 := h
  obtain ⟨⟨F, h1, h2⟩, h3, h4, hB⟩ := h
  refine (C.find path V b q r h1 hB hV hp hr).mono ?_
  rintro e W' ⟨VF, gf, o', he, hf, _, hb⟩
  exact ⟨VF, gf, o', he, hf, h0.below C hb, hb⟩
theorem KepT.get (C : TrieI val zero nw ad fd w RA) (D : MoreI val zero st gt ln w RA) (h : KepT RA w g max l K W0 W) (p : Txt) (hp : p.length ≤ 200) :
    Calls Tryz.prog gt #[.pointer (some ⟨g, 0, none⟩), S p] W fun e W' => e = .returned (.tuple #[val ((getE l p).getD zero), .bool (getE l p).isSome]) ∧ KepT RA w g max l K W0 W' := by
  have h0 := h
  obtain ⟨⟨F, h1, h2⟩, h3, h4, hB⟩ := h
  refine (D.get p h1 hB hp).mono ?_
  rintro e W' ⟨he, hb⟩
  exact ⟨he, h0.below C hb⟩
theorem KepT.len (C : TrieI val zero nw ad fd w RA) (D : MoreI val zero st gt ln w RA) (h : KepT RA w g max l K W0 W) :
    Calls Tryz.prog ln #[.pointer (some ⟨g, 0, none⟩)] W fun e W' => e = .returned (.int .i64 (l.length : Int)) ∧ KepT RA w g max l K W0 W' := by
  have h0 := h
  obtain ⟨⟨F, h1, h2⟩, h3, h4, hB⟩ := h
  refine (D.len h1 hB).mono ?_
  rintro e W' ⟨he, hb⟩
  exact ⟨he, h0.below C hb⟩
end
end Go.Proofs.YtendejpkdjkmnaaGreatDoor
/- The landed same, Set and Get of tries of ints walked. (mktw.py writes it.) -/
namespace Go.Proofs.YtendejpkdjkmnaaGreatDoor
open Go.RowKit
attribute [local go_sem] store_one S_match S_store

section
variable {w : World} {F : Nat → Prop} {g : Nat} {max : Int} {l : Ents (Option Nat)} {R : Nat → Option Role} {N M E : List Key → Option Nat} {here : List Key → Option (Txt × Option Nat)} {bs : List Nat} {C : Nat} {av : Value}
/-- What just this pattern has, and where. -/
def SameIs (l : Ents (Option Nat)) (E : List Key → Option Nat) (here : List Key → Option (Txt × Option Nat)) (p : Txt) (s : List Txt) : Option Nat → Prop
  | none => ∀ e ∈ l, e.1 ≠ p
  | some b => E (keysF s) = some b ∧ ∃ x, here (keysF s) = some (p, x)
theorem S_inj {a b : Txt} (h : S a = S b) : a = b := by
  unfold S at h
  injection h with h
  injection h with h
  simpa using h
set_option maxRecDepth 100000 in
set_option maxHeartbeats 1000000 in
theorem samem_any (h : TrieAt vlm w F g max l R N M E here bs C av) (p : Txt) (s : List Txt) (hs : segsF p = some s) (hpl : p.length ≤ 200) (hm : MaxAt w) :
    Calls Tryz.prog 59 #[.pointer (some ⟨g, 0, none⟩), S p] w fun e w' => ∃ o, e = .returned (ptrO o) ∧ SameIs l E here p s o ∧ Below w.heap.size w w' := by
  have HT := Lib.hid (twinm_any h.nodes p s hs hpl hm)
  have hrel := h.ents (keysF s)
  have hseg : segD p = s := by unfold segD; rw [hs]; rfl
  have hall : ∀ e ∈ l, e.1 = p → here (keysF s) = some e := fun e he hp => (h.keyd.at_ (keysF s) e).2 ⟨he, by rw [hp, hseg]⟩
  cases hE : E (keysF s) with
  | none =>
    rw [hE] at HT
    have hh : here (keysF s) = none := hrel.none_iff.1 hE
    have HP : Hid (SameIs l E here p s none) := Lib.hid fun e he hp => by rw [hall e he hp] at hh; cases hh
    clear h hs hpl hm hrel hall hE hh hseg
    go_enter Tryz.func59, Tryz.ntmps59
    go_wp2_with fail
    refine HT.out.mono ?_
    rintro e W ⟨rfl, hB⟩
    have HB := Lib.hid hB
    clear hB
    unfold ptrO
    go_wp2
    go_ret
    exact ⟨none, rfl, HP.out, HB.out⟩
  | some b =>
    rw [hE] at HT hrel
    cases hh : here (keysF s) with
    | none => rw [hh] at hrel; exact hrel.elim
    | some e =>
      rw [hh] at hrel
      obtain ⟨ty, hrow⟩ := hrel
      obtain ⟨q, x⟩ := e
      have HC : Hid (∀ W, Below w.heap.size w W → W.cell? ⟨b, 0, none⟩ = some (S q)) := Lib.hid fun W hB => cell_of_row W b 0 _ ty (0, 0) (hrow.below hB hrow.lt)
      have n1 : ∀ y z, eqGuard .neq 9 y z (S q) (S p) = pure () := fun y z => nguard_S 9 y z q p
      have q1 : binOp .neq 9 (S q) (S p) = pure (.bool (q != p)) := neql_S 9 q p
      by_cases hqp : q = p
      · rw [show (q != p) = false by rw [hqp]; simp] at q1
        have HP : Hid (SameIs l E here p s (some b)) := Lib.hid ⟨hE, x, by rw [hh, hqp]⟩
        clear h hs hpl hm hall hE hh hrow hqp hseg
        go_enter Tryz.func59, Tryz.ntmps59
        go_wp2_with fail
        refine HT.out.mono ?_
        rintro e W ⟨rfl, hB⟩
        have HB := Lib.hid hB
        have c0 := HC.out W hB
        clear hB
        unfold ptrO
        go_wp2
        go_ret
        exact ⟨some b, rfl, HP.out, HB.out⟩
      · rw [show (q != p) = true from bne_iff_ne.2 hqp] at q1
        have HP : Hid (SameIs l E here p s none) := Lib.hid fun e he hp => hqp (by
          have := hall e he hp
          rw [hh] at this
          rw [← hp, ← Option.some.inj this])
        clear h hs hpl hm hall hE hh hrow hqp hseg
        go_enter Tryz.func59, Tryz.ntmps59
        go_wp2_with fail
        refine HT.out.mono ?_
        rintro e W ⟨rfl, hB⟩
        have HB := Lib.hid hB
        have c0 := HC.out W hB
        clear hB
        unfold ptrO
        go_wp2
        go_ret
        exact ⟨none, rfl, HP.out, HB.out⟩
/-- One pattern has something else. -/
def turnE (p : Txt) (x : Option Nat) (e : Txt × Option Nat) : Txt × Option Nat := if e.1 == p then (p, x) else e
theorem turnE_fst (p : Txt) (x : Option Nat) (e : Txt × Option Nat) : (turnE p x e).1 = e.1 := by
  unfold turnE
  split
  · rename_i h; exact (beq_iff_eq.1 h).symm
  · rfl
theorem TrieAt.set (h : TrieAt vlm w F g max l R N M E here bs C av) {p : Txt} {s : List Txt} (hs : segsF p = some s) {b : Nat} (hE : E (keysF s) = some b) {x0 : Option Nat} (hh : here (keysF s) = some (p, x0)) (x : Option Nat) :
    RTrie vlm (w.setCell ⟨b, 1, none⟩ (vlm x)) F g max (l.map (turnE p x)) ∧ Moves F F w (w.setCell ⟨b, 1, none⟩ (vlm x)) ∧ w.cell? ⟨b, 1, none⟩ = some (vlm x0) ∧ w.frozen? ⟨b, 1, none⟩ = false := by
  have hRb := (h.nodes.eR _ b hE).1
  have hbl := h.nodes.lt b _ hRb
  have hkeep := Keeps.setCell (b := b) w 1 (vlm x)
  have hrel := h.ents (keysF s)
  rw [hE, hh] at hrel
  obtain ⟨ty, hrow⟩ := hrel
  have hseg : segD p = s := by unfold segD; rw [hs]; rfl
  have hrest : ∀ y r, R y = some r → r ≠ .en → (w.setCell ⟨b, 1, none⟩ (vlm x)).heap[y]? = w.heap[y]? := fun y r hy hr => hkeep.block y (h.nodes.lt y r hy) fun e => by
    rw [e, hRb] at hy; exact hr (Option.some.inj hy).symm
  refine ⟨⟨R, N, M, E, fun k => (here k).map (turnE p x), bs, C, av, h.nodes.same hkeep.size fun y ⟨k, hr⟩ => ?_, h.foot, ⟨fun e he => ?_, ?_⟩, ⟨fun k e => ?_, fun e he k r hkr => ?_⟩, fun k => ?_, h.own.of_block hkeep.size fun y hy => hrest y _ (h.ownR y hy) (fun e => by cases e), h.ownR, by rw [List.length_map]; exact h.bsl, fun i b' e hb' he => ?_, by rw [List.length_map]; exact h.few, fun e he => ?_⟩, ?_, ?_, hrow.frozen 1⟩
  · rcases hr with hr | hr
    · exact hrest y _ hr (fun e => by cases e)
    · exact hrest y _ hr (fun e => by cases e)
  · obtain ⟨e0, he0, rfl⟩ := List.mem_map.1 he
    rw [turnE_fst]; exact h.wf.segs e0 he0
  · rw [List.pairwise_map]
    refine h.wf.apart.imp fun {a c} hac => ?_
    rw [turnE_fst, turnE_fst]; exact hac
  · constructor
    · intro hk
      cases hc : here k with
      | none => rw [hc] at hk; cases hk
      | some e0 =>
        rw [hc] at hk
        obtain rfl := Option.some.inj hk
        obtain ⟨h1, h2⟩ := (h.keyd.at_ k e0).1 hc
        exact ⟨List.mem_map.2 ⟨e0, h1, rfl⟩, by rw [turnE_fst]; exact h2⟩
    · rintro ⟨h1, h2⟩
      obtain ⟨e0, he0, rfl⟩ := List.mem_map.1 h1
      rw [turnE_fst] at h2
      rw [(h.keyd.at_ k e0).2 ⟨he0, h2⟩]; rfl
  · obtain ⟨e0, he0, rfl⟩ := List.mem_map.1 he
    rw [turnE_fst] at hkr
    exact h.keyd.way e0 he0 k r hkr
  · have hk := h.ents k
    cases hEk : E k with
    | none => rw [hk.none_iff.1 hEk]; trivial
    | some y =>
      rw [hEk] at hk
      cases hc : here k with
      | none => rw [hc] at hk; exact hk.elim
      | some e0 =>
        rw [hc] at hk
        obtain ⟨t0, hr0⟩ := hk
        have hke := ((h.keyd.at_ k e0).1 hc).2
        by_cases e : y = b
        · subst e
          have hp : e0.1 = p := by
            unfold Row at hr0 hrow
            rw [hr0] at hrow
            injection hrow with e1
            injection e1 with e1
            have e2 := congrArg (fun a : Array Value => a[0]?) e1
            exact S_inj (Option.some.inj e2)
          refine ⟨ty, ?_⟩
          have h2 := hrow.set 1 (vlm x)
          unfold turnE
          rw [if_pos (beq_iff_eq.2 hp)]
          exact h2
        · have hne : e0.1 ≠ p := fun hp => e (by
            rw [hp, hseg] at hke
            rw [← hke, hE] at hEk
            exact (Option.some.inj hEk).symm)
          refine ⟨t0, ?_⟩
          unfold turnE
          rw [if_neg (fun h => hne (beq_iff_eq.1 h))]
          unfold Row
          rw [hkeep.block y hr0.lt e]; exact hr0
  · rw [List.getElem?_map] at he
    cases hl : l[i]? with
    | none => rw [hl] at he; cases he
    | some e0 =>
      rw [hl] at he
      obtain rfl := Option.some.inj he
      rw [turnE_fst]; exact h.bsE i b' e0 hb' hl
  · obtain ⟨e0, he0, rfl⟩ := List.mem_map.1 he
    rw [turnE_fst]; exact h.short e0 he0
  · refine ⟨hkeep.os, hkeep.tape, hkeep.output, hkeep.size, fun k hk => .inl hk, fun y hy hF => hkeep.block y hy fun e => hF ?_⟩
    rw [e]; exact (h.foot b).2 ⟨_, hRb⟩
  · rw [cell_of_row w b 1 _ ty (0, 0) hrow]; rfl
theorem setE_is (l : Ents (Option Nat)) (p : Txt) (x : Option Nat) (s : List Txt) (hs : segsF p = some s) : setE l p x = if (l.any fun e => e.1 == p) = true then (0, l.map (turnE p x)) else (4, l) := by
  unfold setE
  rw [hs]; rfl
theorem any_no {l : Ents (Option Nat)} {p : Txt} (h : ∀ e ∈ l, e.1 ≠ p) : (l.any fun e => e.1 == p) = false := by
  rw [List.any_eq_false]
  exact fun e he hb => h e he (beq_iff_eq.1 hb)
theorem SameIs.mem (h : TrieAt vlm w F g max l R N M E here bs C av) {p : Txt} {s : List Txt} {x0 : Option Nat} (hh : here (keysF s) = some (p, x0)) : (p, x0) ∈ l := ((h.keyd.at_ _ _).1 hh).1
set_option maxRecDepth 100000 in
set_option maxHeartbeats 1000000 in
theorem getm_any (h : TrieAt vlm w F g max l R N M E here bs C av) (p : Txt) (hpl : p.length ≤ 200) (hm : MaxAt w) :
    Calls Tryz.prog 38 #[.pointer (some ⟨g, 0, none⟩), S p] w fun e w' => e = .returned (.tuple #[Value.map ((getE l p).getD none), .bool (getE l p).isSome]) ∧ Below w.heap.size w w' := by
  have HR := Lib.hid (right_any p hpl w hm)
  have H := Lib.hid h
  have HM := Lib.hid hm
  have HPL := Lib.hid hpl
  have hno : (∀ e ∈ l, e.1 ≠ p) → getE l p = none := fun hn => by
    unfold getE
    rw [List.find?_eq_none.2 (fun e he hb => hn e he (beq_iff_eq.1 hb))]; rfl
  have HNO := Lib.hid hno
  clear h hpl hm hno
  cases hs : segsF p with
  | none =>
    rw [hs] at HR
    have HG : Hid (getE l p = none) := Lib.hid (HNO.out fun e he hp => by
      obtain ⟨q, hq⟩ := H.out.wf.segs e he
      rw [hp, hs] at hq; cases hq)
    clear hs
    go_enter Tryz.func38, Tryz.ntmps38
    go_wp2_with fail
    refine HR.out.mono ?_
    rintro e W ⟨rfl, hB⟩
    have HB := Lib.hid hB
    clear hB
    go_wp2
    go_ret2
    exact ⟨by rw [HG.out]; rfl, HB.out⟩
  | some s =>
    rw [hs] at HR
    have HSM : Hid (∀ W, Below w.heap.size w W → Calls Tryz.prog 59 #[.pointer (some ⟨g, 0, none⟩), S p] W fun e w' => ∃ o, e = .returned (ptrO o) ∧ SameIs l E here p s o ∧ Below W.heap.size W w') := Lib.hid fun W hB =>
      samem_any (H.out.below hB) p s hs HPL.out (HM.out.below hB)
    have HS := Lib.hid hs
    clear hs
    go_enter Tryz.func38, Tryz.ntmps38
    go_wp2_with fail
    refine HR.out.mono ?_
    rintro e W ⟨rfl, hB⟩
    have HB := Lib.hid hB
    clear hB
    go_wp2_with fail
    refine (HSM.out W HB.out).mono ?_
    rintro e W2 ⟨o, rfl, ho, hB⟩
    have HB2 := Lib.hid (HB.out.trans (hB.mono HB.out.size))
    clear hB
    cases o with
    | none =>
      have HG : Hid (getE l p = none) := Lib.hid (HNO.out ho)
      clear ho
      unfold ptrO
      go_wp2
      go_ret2
      exact ⟨by rw [HG.out]; rfl, HB2.out⟩
    | some b =>
      obtain ⟨hE, x0, hh⟩ := ho
      obtain ⟨-, -, h3, -⟩ := (H.out.below HB2.out).set HS.out hE hh none
      have HG : Hid (getE l p = some x0) := Lib.hid (by
        unfold getE
        cases hf : l.find? fun e => e.1 == p with
        | none => exact absurd (SameIs.mem H.out hh) fun hm => by have := List.find?_eq_none.1 hf _ hm; simp at this
        | some e =>
          have h1 := List.mem_of_find?_eq_some hf
          have h2 := List.find?_some hf
          have h2 : e.1 = p := by simpa using h2
          have h3 : here (keysF s) = some e := (H.out.keyd.at_ _ e).2 ⟨h1, by rw [h2, show segD p = s by unfold segD; rw [HS.out]; rfl]⟩
          rw [hh] at h3
          rw [← Option.some.inj h3]; rfl)
      clear hE hh
      unfold ptrO
      go_wp2
      go_ret2
      exact ⟨by rw [HG.out]; rfl, HB2.out⟩
end
end Go.Proofs.YtendejpkdjkmnaaGreatDoor
/- Routes within a trie of maps: what is found, what may be added; how it lies in memory. -/
namespace Go.Proofs.YtendejpkdjkmnaaGreatDoor
open Go.RowKit

/-- The patterns of a trie are those of these routes. -/
structure PatsOf {β : Type} (ents : Ents β) (l : List Rt) : Prop where
  of : ∀ e ∈ ents, ∃ r ∈ l, r.p = e.1
  has : ∀ r ∈ l, ∃ e ∈ ents, e.1 = r.p
  few : ents.length ≤ l.length
theorem PatsOf.nil {β : Type} : PatsOf ([] : Ents β) [] := ⟨fun _ h => (by cases h), fun _ h => (by cases h), Nat.le_refl _⟩
theorem PatsOf.push {β : Type} {ents : Ents β} {l : List Rt} (h : PatsOf ents l) (r : Rt) (x : β) : PatsOf (ents ++ [(r.p, x)]) (l ++ [r]) := by
  refine ⟨fun e he => ?_, fun q hq => ?_, by rw [List.length_append, List.length_append]; have := h.few; simp; omega⟩
  · rcases List.mem_append.1 he with he | he
    · obtain ⟨q, hq, e1⟩ := h.of e he
      exact ⟨q, List.mem_append_left _ hq, e1⟩
    · rw [List.mem_singleton] at he
      exact ⟨r, by simp, by rw [he]⟩
  · rcases List.mem_append.1 hq with hq | hq
    · obtain ⟨e, he, e1⟩ := h.has q hq
      exact ⟨e, List.mem_append_left _ he, e1⟩
    · rw [List.mem_singleton] at hq
      exact ⟨(r.p, x), by simp, by rw [hq]⟩
theorem PatsOf.more {β : Type} {ents : Ents β} {l : List Rt} (h : PatsOf ents l) (r : Rt) (hr : ∃ e ∈ ents, e.1 = r.p) : PatsOf ents (l ++ [r]) := by
  refine ⟨fun e he => ?_, fun q hq => ?_, by rw [List.length_append]; have := h.few; omega⟩
  · obtain ⟨q, hq, e1⟩ := h.of e he
    exact ⟨q, List.mem_append_left _ hq, e1⟩
  · rcases List.mem_append.1 hq with hq | hq
    · exact h.has q hq
    · rw [List.mem_singleton] at hq
      rw [hq]; exact hr
theorem find_best {β : Type} {ents : Ents β} {l : List Rt} (hP : PatsOf ents l) {segs : List Txt} {o : Option (Txt × β)} (h : FindIs ents segs o) : BestP l segs (o.map (·.1)) := by
  cases o with
  | none =>
    intro r hr
    obtain ⟨e, he, e1⟩ := hP.has r hr
    rw [← e1]
    exact h e he
  | some e =>
    have h : IsBest ents segs e := h
    refine ⟨hP.of e h.mem, h.fits, fun r hr hf => ?_⟩
    obtain ⟨e', he', e1⟩ := hP.has r hr
    rw [← e1] at hf ⊢
    rcases h.best e' he' hf with h1 | h1
    · exact .inl (by rw [h1])
    · exact .inr h1
/-- What one more route comes to. -/
def addGo (pre : List Rt) (r : Rt) : Nat := if rightR r = false then 1 else if (pre.any fun q => clashR q r) = true then 5 else 0
theorem newGo_add (pre : List Rt) (r : Rt) (l : List Rt) : newGo pre (r :: l) = if addGo pre r = 0 then newGo (pre ++ [r]) l else addGo pre r := by
  rw [newGo]
  unfold addGo
  cases rightR r with
  | false => rfl
  | true =>
    cases (pre.any fun q => clashR q r) with
    | true => rfl
    | false => rfl
theorem right_segs {r : Rt} (h : rightR r = true) : ∃ s, segsF r.p = some s := by
  unfold rightR at h
  rw [Bool.and_eq_true, Bool.and_eq_true] at h
  exact Option.isSome_iff_exists.1 h.2.1
/-- Its pattern is a new one. -/
theorem clash_new {β : Type} {ents : Ents β} {l : List Rt} (hP : PatsOf ents l) {r : Rt} (hn : ∀ e ∈ ents, e.1 ≠ r.p) : (l.any fun q => clashR q r) = ents.any fun e => twinF (segD r.p) (segD e.1) := by
  have key : ∀ q ∈ l, clashR q r = twinF (segD r.p) (segD q.p) := fun q hq => by
    obtain ⟨e, he, e1⟩ := hP.has q hq
    have hne : q.p ≠ r.p := by rw [← e1]; exact hn e he
    unfold clashR
    rw [beq_eq_false_iff_ne.2 hne, Bool.false_and, Bool.false_or, twin_symm]
    have : (q.p != r.p) = true := bne_iff_ne.2 hne
    rw [this, Bool.true_and]
  rw [Bool.eq_iff_iff, List.any_eq_true, List.any_eq_true]
  constructor
  · rintro ⟨q, hq, hc⟩
    obtain ⟨e, he, e1⟩ := hP.has q hq
    exact ⟨e, he, by rw [e1, ← key q hq]; exact hc⟩
  · rintro ⟨e, he, ht⟩
    obtain ⟨q, hq, e1⟩ := hP.of e he
    exact ⟨q, hq, by rw [key q hq, e1]; exact ht⟩
/-- Its pattern is there. -/
theorem clash_there {β : Type} {ents : Ents β} {l : List Rt} (hw : Wf ents) (hP : PatsOf ents l) {r : Rt} (ht : ∃ e ∈ ents, e.1 = r.p) : (l.any fun q => clashR q r) = (pickR l r.p r.m).isSome := by
  obtain ⟨e0, he0, e01⟩ := ht
  have key : ∀ q ∈ l, clashR q r = isRt r.p r.m q := fun q hq => by
    unfold clashR isRt
    by_cases hp : q.p = r.p
    · rw [hp]; simp
    · obtain ⟨e, he, e1⟩ := hP.has q hq
      have h1 : twinF (segD q.p) (segD r.p) = false := by
        cases hx : twinF (segD q.p) (segD r.p) with
        | false => rfl
        | true =>
          rw [← e1, ← e01] at hx
          have := hw.same he he0 hx
          exact absurd (by rw [← e1, this, e01]) hp
      rw [h1, beq_eq_false_iff_ne.2 hp]; simp
  unfold pickR
  rw [Bool.eq_iff_iff, List.any_eq_true]
  constructor
  · rintro ⟨q, hq, hc⟩
    rw [key q hq] at hc
    cases hf : l.find? (isRt r.p r.m) with
    | none => exact absurd hc (List.find?_eq_none.1 hf q hq)
    | some _ => rfl
  · intro h
    obtain ⟨q, hf⟩ := Option.isSome_iff_exists.1 h
    exact ⟨q, List.mem_of_find?_eq_some hf, by rw [key q (List.mem_of_find?_eq_some hf)]; exact List.find?_some hf⟩
theorem pick_other (pre : List Rt) (r : Rt) {p m : Txt} (h : ¬ (r.p = p ∧ r.m = m)) : pickR (pre ++ [r]) p m = pickR pre p m := by
  unfold pickR
  rw [List.find?_append]
  have : isRt p m r = false := by
    cases hx : isRt p m r with
    | false => rfl
    | true => exact absurd (isRt_iff.1 hx) h
  rw [List.find?_cons_of_neg (by rw [this]; exact Bool.false_ne_true), List.find?_nil, Option.or_none]
theorem pick_upd (pre : List Rt) (r : Rt) (hn : pickR pre r.p r.m = none) (s : Txt) : pickR (pre ++ [r]) r.p s = updR (fun s => pickR pre r.p s) r.m r s := by
  unfold updR
  by_cases h : s = r.m
  · rw [if_pos h, h]
    unfold pickR at hn ⊢
    rw [List.find?_append, hn, Option.none_or, List.find?_cons_of_pos (isRt_iff.2 ⟨rfl, rfl⟩)]
  · rw [if_neg h]
    exact pick_other pre r fun e => h e.2.symm
theorem pick_none {l : List Rt} {p : Txt} (h : ∀ r ∈ l, r.p ≠ p) (m : Txt) : pickR l p m = none := by
  unfold pickR
  rw [List.find?_eq_none]
  intro r hr hi
  exact h r hr (isRt_iff.1 hi).1
/-! In memory. -/
/-- A trie of maps that has these routes. -/
structure RgAt (w : World) (T : Nat → Prop) (gt : Nat) (ents : Ents (Option Nat)) (l : List Rt) : Prop where
  trie : RTrie vlm w T gt 32 ents
  wf : Wf ents
  pats : PatsOf ents l
  maps : ∀ e ∈ ents, ∃ m, e.2 = some m ∧ ¬ T m ∧ RMap Tryz.prog 9 w m l.length (fun s => pickR l e.1 s)
  apart : ents.Pairwise fun a b => a.2 ≠ b.2
/-- The blocks that it stands on. -/
def footR (T : Nat → Prop) (ents : Ents (Option Nat)) (k : Nat) : Prop := T k ∨ ∃ e ∈ ents, e.2 = some k
section
variable {β : Type} {val : β → Value} {w w' : World} {F : Nat → Prop} {g : Nat} {max : Int} {l : Ents β}
theorem RTrie.lt (h : RTrie val w F g max l) : F g ∧ ∀ k, F k → k < w.heap.size := by
  obtain ⟨_, _, _, _, _, _, _, _, h⟩ := h
  exact h.lt
theorem RTrie.same (h : RTrie val w F g max l) (hs : w.heap.size ≤ w'.heap.size) (hb : ∀ k, F k → w'.heap[k]? = w.heap[k]?) : RTrie val w' F g max l := by
  obtain ⟨R, N, M, E, here, bs, C, av, h⟩ := h
  exact ⟨R, N, M, E, here, bs, C, av, h.same hs hb⟩
theorem RTrie.wf (h : RTrie val w F g max l) : Wf l := by
  obtain ⟨_, _, _, _, _, _, _, _, h⟩ := h
  exact h.wf
end
section
variable {w w' : World} {T T' : Nat → Prop} {gt : Nat} {ents : Ents (Option Nat)} {l : List Rt}
theorem RgAt.lt (h : RgAt w T gt ents l) : ∀ k, footR T ents k → k < w.heap.size := fun k hk => by
  rcases hk with hk | ⟨e, he, e2⟩
  · exact h.trie.lt.2 k hk
  · obtain ⟨m, hm, _, hr⟩ := h.maps e he
    rw [hm] at e2
    obtain rfl := Option.some.inj e2
    exact hr.lt
theorem RgAt.same (h : RgAt w T gt ents l) (hs : w.heap.size ≤ w'.heap.size) (hb : ∀ k, footR T ents k → w'.heap[k]? = w.heap[k]?) : RgAt w' T gt ents l :=
  { h with
    trie := h.trie.same hs fun k hk => hb k (.inl hk)
    maps := fun e he => by
      obtain ⟨m, hm, hT, hr⟩ := h.maps e he
      exact ⟨m, hm, hT, hr.same (hb m (.inr ⟨e, he, hm⟩))⟩ }
theorem RgAt.below (h : RgAt w T gt ents l) (hb : Below w.heap.size w w') : RgAt w' T gt ents l := h.same hb.size fun k hk => hb.block k (h.lt k hk)
/-- Nothing was added: the trie may have moved. -/
theorem RgAt.kept (h : RgAt w T gt ents l) (hm : Moves T T' w w') (ht : RTrie vlm w' T' gt 32 ents) : RgAt w' T' gt ents l ∧ Moves (footR T ents) (footR T' ents) w w' := by
  refine ⟨⟨ht, h.wf, h.pats, fun e he => ?_, h.apart⟩, hm.os, hm.tape, hm.output, hm.size, fun k hk => ?_, fun k hk hn => hm.rest k hk fun e => hn (.inl e)⟩
  · obtain ⟨m, e2, hT, hr⟩ := h.maps e he
    refine ⟨m, e2, fun hF => ?_, hr.same (hm.rest m hr.lt hT)⟩
    rcases hm.foot m hF with h1 | h1
    · exact hT h1
    · have := hr.lt; omega
  · rcases hk with hk | hk
    · exact (hm.foot k hk).imp .inl id
    · exact .inl (.inr hk)
/-- One more pattern, with a map of its own, mb, made between w and w'. -/
theorem RgAt.push {W : World} (h : RgAt w T gt ents l) (r : Rt) (hn : ∀ e ∈ ents, e.1 ≠ r.p) (mb : Nat) (hB : Below w.heap.size w W) (hmb : w.heap.size ≤ mb) (hr : RMap Tryz.prog 9 W mb 1 (updR (fun _ => none) r.m r)) (hm : Moves T T' W w') (ht : RTrie vlm w' T' gt 32 (ents ++ [(r.p, some mb)])) :
    RgAt w' T' gt (ents ++ [(r.p, some mb)]) (l ++ [r]) ∧ Moves (footR T ents) (footR T' (ents ++ [(r.p, some mb)])) w w' := by
  have hW := h.below hB
  have hno : ∀ q ∈ l, q.p ≠ r.p := fun q hq => by
    obtain ⟨e, he, e1⟩ := h.pats.has q hq
    rw [← e1]; exact hn e he
  have hmT : ¬ T mb := fun e => by have := h.trie.lt.2 mb e; omega
  have hnew : ∀ e ∈ ents, e.2 ≠ some mb := fun e he e2 => by have := h.lt mb (.inr ⟨e, he, e2⟩); omega
  have hnT : ∀ m, m < W.heap.size → ¬ T m → ¬ T' m := fun m hm' h0 hF => by
    rcases hm.foot m hF with h1 | h1
    · exact h0 h1
    · omega
  refine ⟨⟨ht, ht.wf, h.pats.push r _, fun e he => ?_, ?_⟩, hm.os.trans hB.os, hm.tape.trans hB.tape, hm.output.trans hB.output, Nat.le_trans hB.size hm.size, fun k hk => ?_, fun k hk hf => ?_⟩
  · rcases List.mem_append.1 he with he | he
    · obtain ⟨m, e2, hT, hr0⟩ := hW.maps e he
      refine ⟨m, e2, hnT m hr0.lt hT, ((hr0.same (hm.rest m hr0.lt hT)).mono (by rw [List.length_append]; omega)).to fun s => ?_⟩
      exact pick_other l r fun h0 => hn e he h0.1.symm
    · rw [List.mem_singleton] at he
      subst he
      refine ⟨mb, rfl, hnT mb hr.lt hmT, ((hr.same (hm.rest mb hr.lt hmT)).mono (by rw [List.length_append, List.length_singleton]; omega)).to fun s => ?_⟩
      show pickR (l ++ [r]) r.p s = _
      rw [pick_upd l r (pick_none hno _)]
      have : (fun s => pickR l r.p s) = fun _ => none := funext fun s => pick_none hno s
      rw [this]
  · refine List.pairwise_append.2 ⟨h.apart, List.pairwise_singleton _ _, fun a ha b hb => ?_⟩
    rw [List.mem_singleton] at hb
    subst hb
    exact hnew a ha
  · rcases hk with hk | ⟨e, he, e2⟩
    · rcases hm.foot k hk with h1 | h1
      · exact .inl (.inl h1)
      · have := hB.size; exact .inr (by omega)
    · rcases List.mem_append.1 he with he | he
      · exact .inl (.inr ⟨e, he, e2⟩)
      · rw [List.mem_singleton] at he
        subst he
        obtain rfl := Option.some.inj e2
        exact .inr hmb
  · exact (hm.rest k (Nat.lt_of_lt_of_le hk hB.size) fun e => hf (.inl e)).trans (hB.block k hk)
/-- One more method of a pattern that is there. -/
theorem RgAt.put (h : RgAt w T gt ents l) (r : Rt) {m : Nat} (he : (r.p, some m) ∈ ents) (hn : pickR l r.p r.m = none) (hg : w.grownBy w' (some m)) (hr : RMap Tryz.prog 9 w' m (l.length + 1) (updR (fun s => pickR l r.p s) r.m r)) :
    RgAt w' T gt ents (l ++ [r]) ∧ Moves (footR T ents) (footR T ents) w w' := by
  have hother : ∀ e ∈ ents, e ≠ (r.p, some m) → e.2 ≠ some m := fun e he' hne e2 => by
    obtain ⟨i, hi⟩ := List.getElem?_of_mem he
    obtain ⟨j, hj⟩ := List.getElem?_of_mem he'
    obtain ⟨hil, hie⟩ := List.getElem?_eq_some_iff.1 hi
    obtain ⟨hjl, hje⟩ := List.getElem?_eq_some_iff.1 hj
    have hp := List.pairwise_iff_getElem.1 h.apart
    rcases Nat.lt_trichotomy i j with e | e | e
    · have := hp i j hil hjl e
      rw [hie, hje] at this; exact this e2.symm
    · subst e
      exact hne (Option.some.inj (hj.symm.trans hi))
    · have := hp j i hjl hil e
      rw [hie, hje] at this; exact this e2
  obtain ⟨m', e2, hT, -⟩ := h.maps _ he
  obtain rfl : m = m' := Option.some.inj e2
  refine ⟨⟨h.trie.same hg.size fun k hk => hg.block k (h.trie.lt.2 k hk) fun e => hT (by rw [← Option.some.inj e]; exact hk), h.wf, h.pats.more r ⟨_, he, rfl⟩, fun e he' => ?_, h.apart⟩, hg.os, hg.tape, hg.output, hg.size, fun k hk => .inl hk, fun k hk hf => hg.block k hk fun e => hf (.inr ⟨_, he, e.symm⟩)⟩
  by_cases hc : e = (r.p, some m)
  · subst hc
    refine ⟨m, rfl, hT, (hr.mono (by rw [List.length_append]; exact Nat.le_refl _)).to fun s => ?_⟩
    exact pick_upd l r hn s
  · obtain ⟨m2, e3, hT2, hr2⟩ := h.maps e he'
    refine ⟨m2, e3, hT2, ((hr2.same (hg.block m2 hr2.lt fun e4 => hother e he' hc (by rw [e3, e4]))).mono (by rw [List.length_append]; omega)).to fun s => ?_⟩
    refine pick_other l r fun h0 => hc ?_
    have h1 := h.wf.same he he' (by rw [show (r.p, some m).1 = e.1 from h0.1]; exact twin_self _)
    exact h1.symm
end
end Go.Proofs.YtendejpkdjkmnaaGreatDoor
/- Texts sorted, each once: what rises. -/
namespace Go.Proofs.YtendejpkdjkmnaaGreatDoor
open Go.RowKit

theorem ltT_iff : ∀ a b : Txt, ltT a b = true ↔ a < b
  | [], [] => ⟨fun h => (by cases h), fun h => absurd h (List.lt_irrefl _)⟩
  | [], b :: bs => ⟨fun _ => List.Lex.nil, fun _ => rfl⟩
  | a :: ar, [] => ⟨fun h => (by cases h), fun h => (by cases h)⟩
  | a :: ar, b :: bs => by
    rw [ltT, List.cons_lt_cons_iff, ← ltT_iff ar bs]
    by_cases h1 : a < b
    · rw [if_pos h1]
      exact ⟨fun _ => .inl h1, fun _ => rfl⟩
    · rw [if_neg h1]
      by_cases h2 : b < a
      · rw [if_pos h2]
        refine ⟨fun h => (by cases h), ?_⟩
        rintro (h | ⟨rfl, _⟩)
        · exact absurd h h1
        · exact absurd h2 h1
      · rw [if_neg h2]
        have e : a = b := UInt8.toNat_inj.1 (by
          have h1 : ¬ a.toNat < b.toNat := h1
          have h2 : ¬ b.toNat < a.toNat := h2
          omega)
        exact ⟨fun h => .inr ⟨e, h⟩, fun h => h.elim (fun h => absurd h h1) fun h => h.2⟩
theorem ltT_total : ∀ a b : Txt, ltT a b = false → ltT b a = false → a = b
  | [], [], _, _ => rfl
  | [], b :: bs, h, _ => by cases h
  | a :: ar, [], _, h => by cases h
  | a :: ar, b :: bs, h, k => by
    rw [ltT] at h k
    by_cases h1 : a < b
    · rw [if_pos h1] at h; cases h
    · rw [if_neg h1] at h
      by_cases h2 : b < a
      · rw [if_pos h2] at k; cases k
      · rw [if_neg h2] at h k
        rw [if_neg h1] at k
        have e : a = b := UInt8.toNat_inj.1 (by
          have h1 : ¬ a.toNat < b.toNat := h1
          have h2 : ¬ b.toNat < a.toNat := h2
          omega)
        rw [e, ltT_total ar bs h k]
theorem leT_iff (a b : Txt) : a ≤ b ↔ ltT b a = false := by
  have h : a ≤ b ↔ ¬ b < a := Iff.rfl
  rw [h, ← ltT_iff, Bool.not_eq_true]
theorem lt_of_leT {a b c : Txt} (h : a ≤ b) (k : ltT b c = true) : ltT a c = true := by
  rw [leT_iff] at h
  by_cases e : ltT a b = true
  · exact ltT_trans a b c e k
  · rw [Bool.not_eq_true] at e
    rw [ltT_total a b e h]; exact k
/-- Sorted texts, each once. -/
theorem compact_rises (zs : List Txt) (hz : zs.Pairwise fun a b => a ≤ b) : ∀ m, m ≤ zs.length → Rising (Lib.compactUpTo zs.toArray m) ∧ ∀ x, x ∈ Lib.compactUpTo zs.toArray m ↔ ∃ j, j < m ∧ zs[j]? = some x
  | 0, _ => ⟨List.Pairwise.nil, fun x => ⟨fun h => (by cases h), fun ⟨j, h, _⟩ => absurd h (Nat.not_lt_zero j)⟩⟩
  | m + 1, hm => by
    obtain ⟨h1, h2⟩ := compact_rises zs hz m (by omega)
    have hget : ∀ j, j < zs.length → zs[j]? = some zs.toArray[j]! := fun j hj => by
      rw [List.getElem?_eq_getElem hj]
      congr 1
      simp [getElem!_pos, hj]
    rw [Lib.compactUpTo_succ]
    have hp := List.pairwise_iff_getElem.1 hz
    have hle : ∀ i j, i ≤ j → j < zs.length → zs.toArray[i]! ≤ zs.toArray[j]! := fun i j hij hj => by
      rcases Nat.lt_or_ge i j with h | h
      · have := hp i j (by omega) hj h
        simpa [getElem!_pos, hj, show i < zs.length by omega] using this
      · obtain rfl : i = j := by omega
        rw [leT_iff]; exact ltT_irrefl _
    cases hk : Lib.keeps zs.toArray m with
    | true =>
      rw [if_pos rfl]
      refine ⟨List.pairwise_append.2 ⟨h1, List.pairwise_singleton _ _, fun a ha b hb => ?_⟩, fun x => ?_⟩
      · rw [List.mem_singleton] at hb
        subst hb
        obtain ⟨j, hj, hja⟩ := (h2 a).1 ha
        rw [hget j (by omega)] at hja
        obtain rfl := Option.some.inj hja
        have hne : zs.toArray[m]! ≠ zs.toArray[m - 1]! := by
          have : m = 0 ∨ zs.toArray[m]! ≠ zs.toArray[m - 1]! := of_decide_eq_true hk
          exact this.resolve_left (by omega)
        have hl := hle (m - 1) m (by omega) (by omega)
        have hlt : ltT zs.toArray[m - 1]! zs.toArray[m]! = true := by
          rw [leT_iff] at hl
          cases hx : ltT zs.toArray[m - 1]! zs.toArray[m]! with
          | true => rfl
          | false => exact absurd (ltT_total _ _ hx hl).symm hne
        exact lt_of_leT (hle j (m - 1) (by omega) (by omega)) hlt
      · rw [List.mem_append, h2, List.mem_singleton]
        constructor
        · rintro (⟨j, hj, e⟩ | rfl)
          · exact ⟨j, by omega, e⟩
          · exact ⟨m, by omega, hget m (by omega)⟩
        · rintro ⟨j, hj, e⟩
          rcases Nat.lt_or_ge j m with h | h
          · exact .inl ⟨j, h, e⟩
          · obtain rfl : j = m := by omega
            rw [hget j (by omega)] at e
            exact .inr (Option.some.inj e).symm
    | false =>
      rw [if_neg Bool.false_ne_true, List.append_nil]
      refine ⟨h1, fun x => (h2 x).trans ⟨fun ⟨j, hj, e⟩ => ⟨j, by omega, e⟩, fun ⟨j, hj, e⟩ => ?_⟩⟩
      rcases Nat.lt_or_ge j m with h | h
      · exact ⟨j, h, e⟩
      · obtain rfl : j = m := by omega
        have hk : ¬ (j = 0 ∨ zs.toArray[j]! ≠ zs.toArray[j - 1]!) := of_decide_eq_false hk
        have h0 : j ≠ 0 := fun e => hk (.inl e)
        have he : zs.toArray[j]! = zs.toArray[j - 1]! := Classical.byContradiction fun e => hk (.inr e)
        refine ⟨j - 1, by omega, ?_⟩
        rw [hget (j - 1) (by omega), ← he, ← hget j (by omega)]; exact e
theorem sorted_le (l : List Txt) : (l.mergeSort leB).Pairwise fun a b => a ≤ b := by
  have tr : ∀ a b c : List UInt8, leB a b = true → leB b c = true → leB a c = true := fun a b c h1 h2 => by simp only [leB, decide_eq_true_eq] at *; exact List.le_trans h1 h2
  have tot : ∀ a b : List UInt8, (leB a b || leB b a) = true := fun a b => by simp only [leB, Bool.or_eq_true, decide_eq_true_eq]; exact List.le_total a b
  exact (List.pairwise_mergeSort tr tot l).imp fun h => of_decide_eq_true h
/-- What is told of texts: sorted, each once. -/
def onceT (l : List Txt) : List Txt := Lib.compact (l.mergeSort leB)
theorem once_rises (l : List Txt) : Rising (onceT l) ∧ ∀ x, x ∈ onceT l ↔ x ∈ l := by
  obtain ⟨h1, h2⟩ := compact_rises (l.mergeSort leB) (sorted_le l) _ (Nat.le_refl _)
  refine ⟨h1, fun x => (h2 x).trans ?_⟩
  rw [← (List.mergeSort_perm l leB).mem_iff, List.mem_iff_getElem?]
  exact ⟨fun ⟨j, _, e⟩ => ⟨j, e⟩, fun ⟨j, e⟩ => ⟨j, (List.getElem?_eq_some_iff.1 e).1, e⟩⟩
theorem once_len (l : List Txt) : (onceT l).length ≤ l.length := by
  have := Lib.compact_length_le (l.mergeSort leB)
  rw [(List.mergeSort_perm l leB).length_eq] at this
  exact this
theorem joinA_is (ms : List Txt) : joinA ms = Lib.join ms [44, 32] := by
  cases ms with
  | nil => rfl
  | cons m l =>
    rw [Lib.join_cons]
    show m ++ (l.flatMap fun y => 44 :: 32 :: y) = m ++ (l.map ([44, 32] ++ ·)).flatten
    rw [List.flatMap_def]; rfl
theorem joinA_len : ∀ (ms : List Txt), (∀ m ∈ ms, m.length ≤ 1000) → (joinA ms).length ≤ 1002 * ms.length
  | [], _ => Nat.le_refl _
  | m :: l, h => by
    have hr : ∀ r : List Txt, (∀ s ∈ r, s.length ≤ 1000) → (r.flatMap fun y => 44 :: 32 :: y).length ≤ 1002 * r.length := by
      intro r
      induction r with
      | nil => intro _; simp
      | cons s r ih =>
        intro hs
        have h1 := hs s (List.mem_cons_self ..)
        have h2 := ih fun t ht => hs t (List.mem_cons_of_mem _ ht)
        rw [List.flatMap_cons, List.length_append, List.length_cons, List.length_cons, List.length_cons]
        omega
    have h1 := hr l fun s hs => h s (List.mem_cons_of_mem _ hs)
    have h2 := h m (List.mem_cons_self ..)
    unfold joinA
    rw [List.length_append, List.length_cons]
    omega
end Go.Proofs.YtendejpkdjkmnaaGreatDoor
/- What the landed routers call of the standard library: a map's keys, collected, sorted, each once, joined. -/
namespace Go.Proofs.YtendejpkdjkmnaaGreatDoor
open Go.RowKit Go.Shelf Go.Sort

theorem keys_any (mb : Nat) (w : World) : Calls Tryz.prog 33 #[.map (some mb)] w fun e w' => e = .returned (.func (.func 53) #[] #[.pointer (some ⟨w.heap.size, 0, none⟩)]) ∧ w' = w.alloc (.cells #[.map (some mb)] 57) :=
  (callsIn_wide (n := 5)).1 (AnyZ.keys_in Tryz.keysM Fence.wide 5 trivial rfl (some mb) w)
theorem own_row {W : World} {base n : Nat} {e : TypeId} {v : Value} {xs : List Value} (h : W.ownsRow base e 1 v n xs) : Own base v xs W := by
  rcases h.2 with ⟨rfl, h0⟩ | ⟨g, cap, cur, rfl, hb, hg, hn, hm, hs, hx⟩
  · left
    refine ⟨rfl, List.length_eq_zero_iff.1 ?_⟩
    rw [h.1, h0, Nat.zero_mul]
  · right
    have hl : xs.length = n := by rw [h.1, Nat.mul_one]
    refine ⟨g, cap, by rw [hl], hb, (Array.getElem?_eq_some_iff.1 hg).1, by omega, hm, fun j u hu => ?_, fun j hj => ?_⟩
    · rw [Nat.zero_add, cell_of_row W g j cur e (0, 0) hg]
      rw [← hx, Nat.mul_one, List.getElem?_take] at hu
      split at hu
      · simpa using hu
      · cases hu
    · rw [Nat.zero_add]
      refine ⟨?_, (show Row W g cur e from hg).frozen j⟩
      rw [cell_of_row W g j cur e (0, 0) hg, Array.getElem?_eq_getElem (by omega)]; rfl
theorem collect_any {w : World} {m n b : Nat} {f : Txt → Option Rt} (h : RMap Tryz.prog 9 w m n f) (hb : w.cell? ⟨b, 0, none⟩ = some (.map (some m))) (hn : n ≤ 1000) :
    Calls Tryz.prog 32 #[.func (.func 53) #[] #[.pointer (some ⟨b, 0, none⟩)]] w fun e w' => ∃ (v : Value) (ss : List Txt), e = .returned v ∧ ss.length ≤ n ∧ (∀ s, s ∈ ss ↔ (f s).isSome = true) ∧ Own w.heap.size v (ss.map S) w' ∧ Below w.heap.size w w' := by
  obtain ⟨D, hown, hsz, _, hmem⟩ := h.keys Tryz.underlying9
  have hblt : b < w.heap.size := World.block_lt_of_cell? w _ hb
  have hseq : SeqGives Fence.wide 3 Tryz.prog 53 #[.pointer (some ⟨b, 0, none⟩)] encStr (fun ss => ss.Perm (strKeys D)) (Maps.size D) w :=
    AnyZ.keys_gives (ρ := Tryz.keysM_ren) { Tryz.keysM with } Fence.wide _ trivial rfl (by omega) b m n D w hblt hb hown
  have hc := AnyZ.collect_in Tryz.colM Fence.wide 5 trivial trivial rfl (by omega) 53 #[.pointer (some ⟨b, 0, none⟩)] trivial (enters_of Tryz.func53 (by kernel_rfl) rfl) _ (Maps.size D) (by simp only [maxLen]; omega) (by omega) w hseq
  change CallsIn _ _ Tryz.prog 32 _ _ _ at hc
  refine ((callsIn_wide (n := 5)).1 hc).mono ?_
  rintro e w' ⟨v, ss, rfl, hp, hrow, -, hB⟩
  have hlen : ss.length ≤ n := by
    rw [hp.length_eq]
    refine Nat.le_trans (Nat.le_of_eq ?_) hsz
    obtain ⟨es, rfl, _⟩ := hown.keysOf
    exact List.length_map ..
  exact ⟨v, ss, rfl, hlen, fun s => (hp.mem_iff).trans (hmem s), own_row hrow, hB⟩
/-- Texts in a row of one's own, as the library's words have them. -/
theorem own_holds {base g cap : Nat} {l : List Txt} {w : World} (h : Own base (.slice (some ⟨g, 0, none⟩) l.length cap) (l.map S) w) (hl : l ≠ []) : Holds encStr w g 0 l.toArray ∧ base ≤ g ∧ g < w.heap.size ∧ l.length ≤ cap := by
  rcases h with ⟨h1, h2⟩ | ⟨g', cap', hv, h1, h2, h3, h4, h5, h6⟩
  · exact absurd (List.map_eq_nil_iff.1 h2) hl
  · rw [List.length_map] at hv h3
    injection hv with e1 _ e2
    obtain rfl : g = g' := by injection e1 with e1; injection e1
    subst e2
    refine ⟨fun j hj => ?_, h1, h2, h3⟩
    have hj' : j < l.length := by simpa using hj
    refine ⟨?_, (h6 j (by omega)).2⟩
    have := h5 j (S l[j]) (by rw [List.getElem?_map, List.getElem?_eq_getElem hj']; rfl)
    rw [this]
    simp [getElem!_pos, hj', encStr, S]
/-- Turned all at once, with new blocks behind. -/
theorem own_turned {base g cap n : Nat} {l l' : List Txt} {os : Array Obj} {w : World} (h : Own base (.slice (some ⟨g, 0, none⟩) l.length cap) (l.map S) w) (hl : l ≠ []) (hs : l'.length = l.length) :
    Own base (.slice (some ⟨g, 0, none⟩) l'.length cap) (l'.map S) (grow (putRow encStr (Sort.ahead w n) g 0 l'.toArray) os) ∧ Below base w (grow (putRow encStr (Sort.ahead w n) g 0 l'.toArray) os) := by
  obtain ⟨hH, hb, hg, hcap⟩ := own_holds h hl
  have hsz : (putRow encStr (Sort.ahead w n) g 0 l'.toArray).heap.size = w.heap.size := by simp [putRow, mapBlock, Sort.ahead]
  have hH2 := holds_putRow encStr (Sort.ahead w n) g 0 l.toArray l'.toArray (holds_ahead encStr w n g 0 _ hH) (by simpa using hs)
  have hH3 := holds_grow encStr _ os g 0 _ (by rw [hsz]; exact hg) hH2
  have hgr := grownBy_sorted (w := w) (g := g) (n := n) (os := os) l'.toArray
  rcases h with ⟨h1, h2⟩ | ⟨g', cap', hv, h1, h2, h3, h4, h5, h6⟩
  · exact absurd (List.map_eq_nil_iff.1 h2) hl
  · rw [List.length_map] at hv h3
    injection hv with e1 _ e2
    obtain rfl : g = g' := by injection e1 with e1; injection e1
    subst e2
    refine ⟨.inr ⟨g, cap, by rw [List.length_map], hb, Nat.lt_of_lt_of_le hg hgr.size, by rw [List.length_map]; omega, h4, fun j u hu => ?_, fun j hj => ?_⟩, hgr.os, hgr.tape, hgr.output, hgr.size, fun k hk => hgr.block k (by omega) fun e => by have := Option.some.inj e; omega⟩
    · rw [List.getElem?_map] at hu
      cases hlj : l'[j]? with
      | none => rw [hlj] at hu; cases hu
      | some s =>
        rw [hlj] at hu
        obtain rfl := Option.some.inj hu
        obtain ⟨hj, hje⟩ := List.getElem?_eq_some_iff.1 hlj
        rw [(hH3 j (by simpa using hj)).1]
        simp [getElem!_pos, hj, encStr, S, hje]
    · have hc := (h6 j hj).1
      rw [Nat.zero_add] at hc ⊢
      constructor
      · rw [cell?_grow _ _ _ (by rw [hsz]; exact hg)]
        by_cases hjl : j < l'.length
        · have := (hH2 j (by simpa using hjl)).1
          rw [Nat.zero_add] at this
          rw [this]; rfl
        · rw [cell?_putRow_other encStr _ g 0 _ ⟨g, j, none⟩ (.inr (.inr (by simp; omega)))]
          exact hc
      · rw [frozen?_grow _ _ _ (by rw [hsz]; exact hg)]
        have := (h6 j hj).2
        rw [Nat.zero_add] at this
        exact (frozen?_mapBlock _ _ _ _).trans this
theorem sort_own {base : Nat} {v : Value} {l : List Txt} {w : World} (h : Own base v (l.map S) w) (hl : l ≠ []) (hn : l.length ≤ 1000000) :
    Calls Tryz.prog 34 #[v] w fun e w' => e = .returned (.tuple #[]) ∧ Own base v ((l.mergeSort leB).map S) w' ∧ Below base w w' := by
  obtain ⟨g, cap, rfl, -, -, -⟩ := h.form fun e => hl (List.map_eq_nil_iff.1 e)
  rw [List.length_map] at h ⊢
  obtain ⟨hH, hb, hg, hcap⟩ := own_holds h hl
  refine (Tryz.slices_Sort_string g 0 cap l w hH hg (by omega)).mono ?_
  rintro e w' ⟨rfl, n, os, rfl⟩
  have hs : (l.mergeSort leB).length = l.length := (List.mergeSort_perm l leB).length_eq
  obtain ⟨h1, h2⟩ := own_turned (n := n) (os := os) h hl hs
  rw [hs] at h1
  exact ⟨rfl, h1, h2⟩
theorem compact_own {base : Nat} {v : Value} {l : List Txt} {w : World} (h : Own base v (l.map S) w) (hl : l ≠ []) (hn : l.length ≤ 1000000) :
    Calls Tryz.prog 36 #[v] w fun e w' => ∃ g cap, e = .returned (.slice (some ⟨g, 0, none⟩) (Lib.compact l).length cap) ∧ g < w'.heap.size ∧ (Lib.compact l).length ≤ cap ∧ (∀ i s, (Lib.compact l)[i]? = some s → w'.cell? ⟨g, i, none⟩ = some (S s)) ∧ Below base w w' := by
  obtain ⟨g, cap, rfl, -, -, -⟩ := h.form fun e => hl (List.map_eq_nil_iff.1 e)
  rw [List.length_map] at h ⊢
  obtain ⟨hH, hb, hg, hcap⟩ := own_holds h hl
  refine (Tryz.slices_Compact_string g 0 cap l w hH (by omega) hcap).mono ?_
  rintro e w' ⟨rfl, n, rfl⟩
  have hle := Lib.compact_length_le l
  obtain ⟨h1, h2⟩ := own_turned (n := n) (os := #[]) (l' := Lib.compact l ++ List.replicate (l.length - (Lib.compact l).length) []) h hl (by rw [List.length_append, List.length_replicate]; omega)
  have e0 : ∀ W : World, grow W #[] = W := fun W => by simp [grow]
  rw [e0] at h1 h2
  refine ⟨g, cap, rfl, ?_, by omega, fun i s hs => ?_, h2⟩
  · simpa [putRow, mapBlock, Sort.ahead] using hg
  · rcases h1 with ⟨h1, _⟩ | ⟨g', cap', hv, _, _, _, _, h5, _⟩
    · cases h1
    · obtain rfl : g = g' := by injection hv with e1; injection e1 with e1; injection e1
      have := h5 i (S s) (by rw [List.getElem?_map, List.getElem?_append_left (List.getElem?_eq_some_iff.1 hs).1, hs]; rfl)
      rwa [Nat.zero_add] at this
theorem joinA_any {w : World} {g cap : Nat} {l : List Txt} (hg : g < w.heap.size) (hcell : ∀ i s, l[i]? = some s → w.cell? ⟨g, i, none⟩ = some (S s)) (hc : l.length ≤ cap) (hl : l.length ≤ 100000) (he : ∀ s ∈ l, s.length ≤ 1000) :
    Calls Tryz.prog 35 #[.slice (some ⟨g, 0, none⟩) l.length cap, .string ⟨#[44, 32]⟩] w fun e w' => e = .returned (S (joinA l)) ∧ Below w.heap.size w w' := by
  obtain ⟨q, hq⟩ : ∃ q : List ByteArray, q = l.map fun s => ⟨s.toArray⟩ := ⟨_, rfl⟩
  have hql : q.length = l.length := by rw [hq, List.length_map]
  have hqm : q.map (·.data.toList) = l := by
    rw [hq, List.map_map]
    exact List.map_id _
  have hcell2 : ∀ (j : Nat) y, q[j]? = some y → w.cell? ⟨g, 0 + j, none⟩ = some (.string y) := fun j y hy => by
    rw [hq, List.getElem?_map] at hy
    cases hlj : l[j]? with
    | none => rw [hlj] at hy; cases hy
    | some s =>
      rw [hlj] at hy
      obtain rfl := Option.some.inj hy
      rw [Nat.zero_add]
      exact hcell j s hlj
  have hlen : (Lib.join (q.map (·.data.toList)) (⟨#[44, 32]⟩ : ByteArray).data.toList).length ≤ 140737488355328 := by
    rw [hqm]
    show (Lib.join l [44, 32]).length ≤ _
    rw [← joinA_is]
    have := joinA_len l he
    omega
  have hJ := Tryz.strings_Join g 0 cap q ⟨#[44, 32]⟩ w hcell2 hg (by omega) (by omega) hlen
  rw [hql] at hJ
  refine hJ.mono ?_
  rintro e w' ⟨rfl, hB⟩
  refine ⟨?_, hB⟩
  rw [hqm, joinA_is]
  rfl
end Go.Proofs.YtendejpkdjkmnaaGreatDoor
/- The landed methods of one pattern: which route a method has, and which methods there are. (mkuw5.py writes it.) -/
namespace Go.Proofs.YtendejpkdjkmnaaGreatDoor
open Go.RowKit
attribute [local go_sem] store_one S_match S_store

/-- Which route there is of a method. -/
def rtOf (f : Txt → Option Rt) (s : Txt) : Option Rt := (f s).or (if s = headT then f getT else none)
theorem zeroRt : ∀ w, (zeroValue 40).run Tryz.prog w = .ok (rtV rt0) w := (zero_of_info (n := 4) (by kernel_rfl)).1
theorem look_any {w : World} {m n : Nat} {f : Txt → Option Rt} (h : RMap Tryz.prog 9 w m n f) (s : Txt) (hs : s.length ≤ 1000000) :
    (Instr.lookup 57 (.map (some m)) (S s) true).run Tryz.prog w = .ok (.tuple #[rtV ((f s).getD rt0), .bool (f s).isSome]) w :=
  h.look_ok Tryz.underlying9 Tryz.underlying57 zeroRt hs
theorem infoRt : (Tryz.prog.info? 40).map (·.size) = some 4 := by kernel_rfl
theorem results_rt {fn : Func} {p u : Tmp} (h : fn.results = #[.cell p 40, .tmp u]) (tmps : Array Value) (w : World) (g : Nat) (cs : Array Value) (hp : tmps.getD p undef = .pointer (some ⟨g, 0, none⟩)) (hg : w.heap[g]? = some (.cells cs 40 (0, 0))) (h4 : cs.size = 4) :
    (results fn tmps).run Tryz.prog w = .ok (.tuple #[.agg cs, tmps.getD u undef]) w :=
  results_row_tmp h tmps w g 40 cs (0, 0) _ hp hg Tryz.underlying40 rfl (by rw [infoRt, h4])
set_option maxRecDepth 100000 in
set_option maxHeartbeats 1000000 in
theorem route_any {w : World} {m n : Nat} {f : Txt → Option Rt} (h : RMap Tryz.prog 9 w m n f) (s : Txt) (hs : s.length ≤ 1000000) :
    Calls Tryz.prog 20 #[.map (some m), S s] w fun e w' => e = .returned (.tuple #[rtV ((rtOf f s).getD rt0), .bool (rtOf f s).isSome]) ∧ Below w.heap.size w w' := by
  have HL : Hid (∀ W, Below w.heap.size w W → ∀ x : Txt, x.length ≤ 1000000 → (Instr.lookup 57 (.map (some m)) (S x) true).run Tryz.prog W = .ok (.tuple #[rtV ((f x).getD rt0), .bool (f x).isSome]) W) := Lib.hid fun W hB x hx => look_any (h.below hB) x hx
  have hB1 : Below w.heap.size w (w.alloc (.cells #[.string ⟨#[]⟩, .string ⟨#[]⟩, .int .i64 0, .string ⟨#[]⟩] 40)) := (Below.refl _ w).alloc (Nat.le_refl _) _
  have l1 := HL.out _ hB1 s hs
  obtain ⟨r, hr⟩ : ∃ r, r = (f s).getD rt0 := ⟨_, rfl⟩
  have hcase : (f s = some r) ∨ (f s = none ∧ r = rt0) := by
    rw [hr]
    cases f s with
    | none => exact .inr ⟨rfl, rfl⟩
    | some q => exact .inl rfl
  rw [← hr] at l1
  have hB2 : ∀ a b, Below w.heap.size w ((w.alloc (.cells a 40)).alloc (.cells b 40)) := fun a b => ((Below.refl _ w).alloc (Nat.le_refl _) _).alloc (by simp) _
  have l2 : ∀ a b, (Instr.lookup 57 (.map (some m)) (.string ⟨#[71, 69, 84]⟩) true).run Tryz.prog ((w.alloc (.cells a 40)).alloc (.cells b 40)) = .ok (.tuple #[rtV ((f getT).getD rt0), .bool (f getT).isSome]) ((w.alloc (.cells a 40)).alloc (.cells b 40)) := fun a b => HL.out _ (hB2 a b) getT (by decide)
  have HB2 := Lib.hid hB2
  have HR : ∀ a b c d, Hid ((w.alloc (.cells #[a, b, c, d] 40)).heap[w.heap.size]? = some (.cells #[a, b, c, d] 40 (0, 0))) := fun a b c d => Lib.hid (heap_alloc_new w _)
  obtain ⟨r1, r2, r3, r4⟩ := r
  have hres : ∀ a b c d o, ((w.alloc (.cells #[a, b, c, d] 40)).alloc o).heap[w.heap.size]? = some (.cells #[a, b, c, d] 40 (0, 0)) := fun a b c d o => (heap_alloc_old _ o (by simp)).trans (heap_alloc_new w _)
  have HRES := Lib.hid hres
  clear hB2 hres HR
  have n1 : ∀ y z, eqGuard .eql 9 y z (S s) (.string ⟨#[72, 69, 65, 68]⟩) = pure () := fun y z => guard_S 9 y z s headT
  have q1 : binOp .eql 9 (S s) (.string ⟨#[72, 69, 65, 68]⟩) = pure (.bool (s == headT)) := eql_S 9 s headT
  obtain ⟨B, hBB⟩ : ∃ B : Bool, B = (s == headT) := ⟨_, rfl⟩
  rw [← hBB] at q1
  have HBB := Lib.hid hBB
  rcases hcase with hf | ⟨hf, h0⟩
  · have HF : Hid (rtOf f s = some ⟨r1, r2, r3, r4⟩) := Lib.hid (by unfold rtOf; rw [hf]; rfl)
    rw [hf] at l1
    simp only [Option.isSome_some] at l1
    unfold rtV rtC at l1
    clear h hr hf hs l2 hB1 hBB
    go_enter Tryz.func20, Tryz.ntmps20
    go_wp2
    refine bodyPost_ret (results_rt rfl _ _ w.heap.size _ rfl (HRES.out _ _ _ _ _) rfl) rfl ?_
    exact ⟨by rw [HF.out]; rfl, HB2.out _ _⟩
  · rw [hf] at l1
    simp only [Option.isSome_none] at l1
    unfold rtV rtC at l1
    cases B with
    | false =>
      have HF : Hid (rtOf f s = none ∧ Rt.mk r1 r2 r3 r4 = rt0) := Lib.hid ⟨by unfold rtOf; rw [hf, if_neg (fun e => by rw [beq_iff_eq.2 e] at hBB; cases hBB)]; rfl, h0⟩
      clear h hr hf hs l2 hB1 hBB h0
      go_enter Tryz.func20, Tryz.ntmps20
      go_wp2
      refine bodyPost_ret (results_rt rfl _ _ w.heap.size _ rfl (HRES.out _ _ _ _ _) rfl) rfl ?_
      exact ⟨by rw [HF.out.1]; show _ = Ending.returned (.tuple #[rtV rt0, .bool false]); rw [← HF.out.2]; rfl, HB2.out _ _⟩
    | true =>
      have HF : Hid (rtOf f s = f getT) := Lib.hid (by unfold rtOf; rw [hf, if_pos (beq_iff_eq.1 hBB.symm)]; rfl)
      obtain ⟨q, hq⟩ : ∃ q, q = (f getT).getD rt0 := ⟨_, rfl⟩
      rw [← hq] at l2
      obtain ⟨ok, hok⟩ : ∃ ok, ok = (f getT).isSome := ⟨_, rfl⟩
      rw [← hok] at l2
      obtain ⟨q1', q2, q3, q4⟩ := q
      unfold rtV rtC at l2
      have HQ := Lib.hid (And.intro hq hok)
      clear h hr hf hs hB1 hBB h0 hq hok
      go_enter Tryz.func20, Tryz.ntmps20
      go_wp2
      refine bodyPost_ret (results_rt rfl _ _ w.heap.size _ rfl (HRES.out _ _ _ _ _) rfl) rfl ?_
      exact ⟨by rw [HF.out, ← HQ.out.1, ← HQ.out.2]; rfl, HB2.out _ _⟩
end Go.Proofs.YtendejpkdjkmnaaGreatDoor
/- The landed methods of one pattern: which methods are told. -/
namespace Go.Proofs.YtendejpkdjkmnaaGreatDoor
open Go.RowKit
attribute [local go_sem] store_one S_match S_store

theorem elemT9' : Elem Tryz.prog 9 := elem_of (z := .string ⟨#[]⟩) (n := 16) (by kernel_rfl) (by omega) rfl
theorem Own.low {base base' : Nat} {v : Value} {xs : List Value} {w : World} (h : Own base v xs w) (hb : base' ≤ base) : Own base' v xs w := by
  rcases h with h | ⟨g, cap, h0, h1, h2⟩
  · exact .inl h
  · exact .inr ⟨g, cap, h0, Nat.le_trans hb h1, h2⟩
section
variable {P : Program} {ops : Array Oper} {rest : List Oper} {o : Oper} {a : Act} {w : World} {Q : Exit → Act → World → Prop}
theorem wpList_addH (hgd : o.guard = none) (t e : TypeId) (s x : Operand) (ho : o.op = .call { callee := .builtin .append, args := #[s, x], argTypes := #[t, t] }) (ht : P.underlying t = some (.slice e)) (he : Elem P e) (base : Nat) (W : World)
    (v : Value) (hs : a.eval s = v) (xs : List Value) (hown : Own base v xs W) (y : Value) (hy1 : y.oneCell' = true) (cs : Array Value) (hcs : cs = #[y]) (hw : w = W.alloc (.cells cs e)) (H : Nat) (hH : W.heap.size = H) (hx : a.eval x = .slice (some ⟨H, 0, none⟩) 1 1)
    (hlen : xs.length < 1000000000000) (hbase : base ≤ W.heap.size)
    (h : ∀ v' w', Own base v' (xs ++ [y]) w' → W.grownBy w' v.ownBlock → (v'.ownBlock = v.ownBlock ∨ ∃ g, v'.ownBlock = some g ∧ W.heap.size ≤ g) → wpList P ops Q rest (a.put o.dst v') w') : wpList P ops Q (o :: rest) a w := by
  subst hH
  exact wpList_add hgd t e s x ho ht he base W v hs xs hown y hy1 cs hcs hw hx hlen hbase h
end
theorem Below.keep {n : Nat} {w W W' : World} (h : Below w.heap.size w W) (k : Below n W W') (hn : w.heap.size ≤ n) : Below w.heap.size w W' := h.trans (k.mono hn)
set_option maxRecDepth 100000 in
set_option maxHeartbeats 1000000 in
theorem allow_any {w : World} {m n : Nat} {f : Txt → Option Rt} (h : RMap Tryz.prog 9 w m n f) (hn : n ≤ 100) (hne : ∃ s, (f s).isSome = true) (hlen : ∀ s, (f s).isSome = true → s.length ≤ 900) :
    Calls Tryz.prog 21 #[.map (some m)] w fun e w' => ∃ ms, e = .returned (S (joinA ms)) ∧ Rising ms ∧ (∀ s, s ∈ ms ↔ ((f s).isSome = true ∨ (s = headT ∧ (f getT).isSome = true))) ∧ Below w.heap.size w w' := by
  have HK := Lib.hid (keys_any m w)
  have hBk : Below w.heap.size w (w.alloc (.cells #[.map (some m)] 57)) := (Below.refl _ w).alloc (Nat.le_refl _) _
  have HC := Lib.hid (collect_any (b := w.heap.size) (h.below hBk) (by rw [cell_of_row _ _ 0 _ _ _ (row_new w _ _)]; rfl) (by omega))
  have HL : Hid (∀ W, Below w.heap.size w W → (Instr.lookup 57 (.map (some m)) (.string ⟨#[71, 69, 84]⟩) true).run Tryz.prog W = .ok (.tuple #[rtV ((f getT).getD rt0), .bool (f getT).isSome]) W) := Lib.hid fun W hB => look_any (h.below hB) getT (by decide)
  have HBK := Lib.hid hBk
  obtain ⟨q, hq⟩ : ∃ q, q = (f getT).getD rt0 := ⟨_, rfl⟩
  rw [← hq] at HL
  obtain ⟨ok, hok⟩ : ∃ ok, ok = (f getT).isSome := ⟨_, rfl⟩
  rw [← hok] at HL ⊢
  clear hq
  obtain ⟨q1, q2, q3, q4⟩ := q
  unfold rtV rtC at HL
  have HNE : Hid ((∃ s, (f s).isSome = true) ∧ (∀ s, (f s).isSome = true → s.length ≤ 900) ∧ n ≤ 100) := Lib.hid ⟨hne, hlen, hn⟩
  -- what is told of texts, once they are collected
  have HEND : Hid (∀ (l : List Txt) (v : Value) (W : World), Own w.heap.size v (l.map S) W → Below w.heap.size w W → (∀ s, s ∈ l ↔ ((f s).isSome = true ∨ (s = headT ∧ ok = true))) → l.length ≤ 200 →
      Calls Tryz.prog 34 #[v] W fun e W' => e = .returned (.tuple #[]) ∧ Below w.heap.size w W' ∧ Own w.heap.size v ((l.mergeSort leB).map S) W') := Lib.hid fun l v W ho hB hm hl => by
    obtain ⟨s0, hs0⟩ := HNE.out.1
    have hl0 : l ≠ [] := fun e => by have := (hm s0).2 (.inl hs0); rw [e] at this; cases this
    refine (sort_own ho hl0 (by omega)).mono ?_
    rintro e W' ⟨rfl, h1, h2⟩
    exact ⟨rfl, hB.trans h2, h1⟩
  have HEND2 : Hid (∀ (l : List Txt) (v : Value) (W : World), Own w.heap.size v ((l.mergeSort leB).map S) W → Below w.heap.size w W → (∀ s, s ∈ l ↔ ((f s).isSome = true ∨ (s = headT ∧ ok = true))) → l.length ≤ 200 →
      Calls Tryz.prog 36 #[v] W fun e W' => ∃ g cap, e = .returned (.slice (some ⟨g, 0, none⟩) (onceT l).length cap) ∧ Below w.heap.size w W' ∧
        Calls Tryz.prog 35 #[.slice (some ⟨g, 0, none⟩) (onceT l).length cap, .string ⟨#[44, 32]⟩] W' fun e W2 => e = .returned (S (joinA (onceT l))) ∧ Below w.heap.size w W2) := Lib.hid fun l v W ho hB hm hl => by
    obtain ⟨s0, hs0⟩ := HNE.out.1
    have hmem := fun x => (List.mergeSort_perm l leB).mem_iff (a := x)
    have hl0 : l.mergeSort leB ≠ [] := fun e => by have := (hmem s0).2 ((hm s0).2 (.inl hs0)); rw [e] at this; cases this
    refine (compact_own ho hl0 (by rw [(List.mergeSort_perm l leB).length_eq]; omega)).mono ?_
    rintro e W' ⟨g, cap, rfl, h1, h2, h3, h4⟩
    have hol := once_len l
    refine ⟨g, cap, rfl, hB.trans h4, (joinA_any (l := onceT l) h1 h3 h2 (by omega) fun s hs => ?_).mono ?_⟩
    · rcases (hm s).1 (((once_rises l).2 s).1 hs) with h | ⟨rfl, _⟩
      · have := HNE.out.2.1 s h; omega
      · decide
    · rintro e W2 ⟨rfl, h5⟩
      exact ⟨rfl, (hB.trans h4).trans (h5.mono (hB.trans h4).size)⟩
  have HOK := Lib.hid hok
  clear h hn hne hlen hBk hok
  go_enter Tryz.func21, Tryz.ntmps21
  go_wp2_with fail
  refine HK.out.mono ?_
  rintro e W ⟨rfl, hW⟩
  rw [hW]
  clear hW W
  go_wp2_with fail
  refine HC.out.mono ?_
  rintro e W ⟨v, ss, rfl, hl, hm, ho, hB⟩
  have hB1 : Below w.heap.size w W := HBK.out.trans (hB.mono HBK.out.size)
  have HB1 := Lib.hid hB1
  have HO : Hid (Own w.heap.size v (ss.map S) W) := Lib.hid (ho.low HBK.out.size)
  have hl1 := HL.out W hB1
  have HM := Lib.hid (And.intro hl hm)
  clear hl hm ho hB hB1
  cases ok with
  | false =>
    have HS := Lib.hid (HEND.out ss v (W.alloc (.cells #[S q1, S q2, .int .i64 q3, S q4] 40)) (HO.out.alloc _) (HB1.out.alloc HB1.out.size _) (fun s => (HM.out.2 s).trans ⟨.inl, fun h => h.elim id fun h => absurd h.2 Bool.false_ne_true⟩) (by have := HM.out.1; have := HNE.out.2.2; omega))
    have HMM : Hid ((∀ s, s ∈ ss ↔ ((f s).isSome = true ∨ (s = headT ∧ false = true))) ∧ ss.length ≤ 200) := Lib.hid ⟨fun s => (HM.out.2 s).trans ⟨.inl, fun h => h.elim id fun h => absurd h.2 Bool.false_ne_true⟩, by have := HM.out.1; have := HNE.out.2.2; omega⟩
    go_wp2_with fail
    refine HS.out.mono ?_
    rintro e W2 ⟨rfl, hB2, ho2⟩
    have HC2 := Lib.hid (HEND2.out ss v W2 ho2 hB2 HMM.out.1 HMM.out.2)
    clear hB2 ho2 hl1
    go_wp2_with fail
    refine HC2.out.mono ?_
    rintro e W3 ⟨g, cap, rfl, hB3, hJ⟩
    have HJ := Lib.hid hJ
    clear hB3 hJ
    go_wp2_with fail
    refine HJ.out.mono ?_
    rintro e W4 ⟨rfl, hB4⟩
    have HB4 := Lib.hid hB4
    clear hB4
    go_wp2
    go_ret
    exact ⟨onceT ss, rfl, (once_rises ss).1, fun s => ((once_rises ss).2 s).trans (HMM.out.1 s), HB4.out⟩
  | true =>
    have HO2 : Hid (Own w.heap.size v (ss.map S) (W.alloc (.cells #[S q1, S q2, .int .i64 q3, S q4] 40))) := Lib.hid (HO.out.alloc _)
    have HB2 : Hid (Below w.heap.size w (W.alloc (.cells #[S q1, S q2, .int .i64 q3, S q4] 40))) := Lib.hid (HB1.out.alloc HB1.out.size _)
    have HMM : Hid ((∀ s, s ∈ ss ++ [headT] ↔ ((f s).isSome = true ∨ (s = headT ∧ true = true))) ∧ (ss ++ [headT]).length ≤ 200) := Lib.hid ⟨fun s => by
      rw [List.mem_append, List.mem_singleton, HM.out.2 s]
      exact ⟨fun h => h.imp id fun h => ⟨h, rfl⟩, fun h => h.imp id fun h => h.1⟩, by rw [List.length_append]; have := HM.out.1; have := HNE.out.2.2; simp; omega⟩
    have hssl : (ss.map S).length < 1000000 := by rw [List.length_map]; have := HM.out.1; have := HNE.out.2.2; omega
    have HSL := Lib.hid hssl
    have HAP : Hid (ss.map S ++ [S headT] = (ss ++ [headT]).map S) := Lib.hid (by rw [List.map_append]; rfl)
    clear hssl
    go_wp2_with (first
      | (at_builtin; refine wpList_addH rfl 53 9 (.tmp 15) (.tmp 16) rfl Tryz.underlying53 elemT9' w.heap.size (W.alloc (.cells #[S q1, S q2, .int .i64 q3, S q4] 40)) v rfl (ss.map S) HO2.out (S headT) rfl _ rfl rfl (W.heap.size + 1) (alloc_size _ _) rfl (by have := HSL.out; omega) HB2.out.size ?_; intro v5 W5 o5 g5 _; have H5 : Hid (Own w.heap.size v5 ((ss ++ [headT]).map S) W5 ∧ Below w.heap.size w W5) := Lib.hid ⟨by rw [← HAP.out]; exact o5, below_grown HB2.out g5 (fun k hk => (HO2.out.lt k hk).1) HB2.out.size⟩; clear o5 g5)
      | fail)
    refine (HEND.out (ss ++ [headT]) v5 W5 H5.out.1 H5.out.2 HMM.out.1 HMM.out.2).mono ?_
    rintro e W2 ⟨rfl, hB2, ho2⟩
    have HC2 := Lib.hid (HEND2.out (ss ++ [headT]) v5 W2 ho2 hB2 HMM.out.1 HMM.out.2)
    clear hB2 ho2 hl1
    go_wp2_with fail
    refine HC2.out.mono ?_
    rintro e W3 ⟨g, cap, rfl, hB3, hJ⟩
    have HJ := Lib.hid hJ
    clear hB3 hJ
    go_wp2_with fail
    refine HJ.out.mono ?_
    rintro e W4 ⟨rfl, hB4⟩
    have HB4 := Lib.hid hB4
    clear hB4
    go_wp2
    go_ret
    exact ⟨onceT (ss ++ [headT]), rfl, (once_rises _).1, fun s => ((once_rises _).2 s).trans (by simpa using HMM.out.1 s), HB4.out⟩
end Go.Proofs.YtendejpkdjkmnaaGreatDoor
/- The landed Token walked. -/
namespace Go.Proofs.YtendejpkdjkmnaaGreatDoor
open Go.RowKit
attribute [local go_sem] store_one S_match S_store eguard_BN nguard_BN

theorem mark_any (c : UInt8) (w : World) : Calls Tryz.prog 63 #[.string ⟨#[33, 35, 36, 37, 38, 39, 42, 43, 45, 46, 94, 95, 96, 124, 126]⟩, B c] w fun e w' => e = .returned (.int .i64 (Lib.indexByte markL c)) ∧ w' = w := by
  have h := Any.strings_IndexByte Tryz.lays137 ⟨#[33, 35, 36, 37, 38, 39, 42, 43, 45, 46, 94, 95, 96, 124, 126]⟩ (c.toNat : Int) w
  have e : (c.toNat : Int).toNat.toUInt8 = c := by simp
  rw [e] at h
  exact h
set_option maxRecDepth 100000 in
set_option maxHeartbeats 1000000 in
theorem intoken_any (c : UInt8) (w : World) : Calls Tryz.prog 41 #[B c] w fun e w' => e = .returned (.bool (tokB c)) ∧ w' = w := by
  have h1 := B_geq 5 c 65
  have h2 := B_leq 5 c 90
  have h3 := B_geq 5 c 97
  have h4 := B_leq 5 c 122
  have h5 := B_geq 5 c 48
  have h6 := B_leq 5 c 57
  have hE : inTok c.toNat = ((decide (65 ≤ c.toNat) && decide (c.toNat ≤ 90) || decide (97 ≤ c.toNat) && decide (c.toNat ≤ 122)) || (decide (48 ≤ c.toNat) && decide (c.toNat ≤ 57)) || markL.contains c) := by
    unfold inTok; simp only [UInt8.ofNat_toNat]
  rw [Lib.contains_iff_indexByte] at hE
  obtain ⟨j, hj⟩ : ∃ j, j = Lib.indexByte markL c := ⟨_, rfl⟩
  have hmk := mark_any c
  rw [← hj] at hE hmk
  have HM := Lib.hid hmk
  rw [tok_eq, hE]
  clear hE hmk hj
  have fin : ∀ (tk : Bool), Calls Tryz.prog 41 #[B c] w (fun e w' => e = .returned (.bool tk) ∧ w' = w) → ((decide (65 ≤ c.toNat) && decide (c.toNat ≤ 90) || decide (97 ≤ c.toNat) && decide (c.toNat ≤ 122)) || (decide (48 ≤ c.toNat) && decide (c.toNat ≤ 57)) || decide (0 ≤ j)) = tk →
      Calls Tryz.prog 41 #[B c] w (fun e w' => e = .returned (.bool ((decide (65 ≤ c.toNat) && decide (c.toNat ≤ 90) || decide (97 ≤ c.toNat) && decide (c.toNat ≤ 122)) || (decide (48 ≤ c.toNat) && decide (c.toNat ≤ 57)) || decide (0 ≤ j))) ∧ w' = w) := fun tk h e => by rw [e]; exact h
  have hcs : c.toNat < 48 ∨ (48 ≤ c.toNat ∧ c.toNat ≤ 57) ∨ (57 < c.toNat ∧ c.toNat < 65) ∨ (65 ≤ c.toNat ∧ c.toNat ≤ 90) ∨ (90 < c.toNat ∧ c.toNat < 97) ∨ (97 ≤ c.toNat ∧ c.toNat ≤ 122) ∨ 122 < c.toNat := by omega
  rcases hcs with a | a | a | a | a | a | a
  · refine fin (decide (0 ≤ j)) ?_ (by simp; omega)
    rw [decide_eq_false (by omega)] at h1 h3 h5
    clear h2 h4 h6 a fin
    go_enter Tryz.func41, Tryz.ntmps41
    go_wp2_with fail
    refine (HM.out w).mono ?_
    rintro e w1 ⟨rfl, rfl⟩
    go_wp2
    go_ret
    exact ⟨rfl, rfl⟩
  · refine fin (true) ?_ (by simp; omega)
    rw [decide_eq_false (by omega)] at h1 h3
    rw [decide_eq_true (by omega)] at h5 h6
    clear h2 h4 a fin
    go_enter Tryz.func41, Tryz.ntmps41
    go_wp2
    go_ret
    exact ⟨rfl, rfl⟩
  · refine fin (decide (0 ≤ j)) ?_ (by simp; omega)
    rw [decide_eq_false (by omega)] at h1 h3 h6
    rw [decide_eq_true (by omega)] at h5
    clear h2 h4 a fin
    go_enter Tryz.func41, Tryz.ntmps41
    go_wp2_with fail
    refine (HM.out w).mono ?_
    rintro e w1 ⟨rfl, rfl⟩
    go_wp2
    go_ret
    exact ⟨rfl, rfl⟩
  · refine fin (true) ?_ (by simp; omega)
    rw [decide_eq_true (by omega)] at h1 h2
    rw [decide_eq_true (by omega)] at h5
    rw [decide_eq_false (by omega)] at h6
    clear h3 h4 a fin
    go_enter Tryz.func41, Tryz.ntmps41
    go_wp2
    go_ret
    exact ⟨rfl, rfl⟩
  · refine fin (decide (0 ≤ j)) ?_ (by simp; omega)
    rw [decide_eq_true (by omega)] at h1 h5
    rw [decide_eq_false (by omega)] at h2 h3 h6
    clear h4 a fin
    go_enter Tryz.func41, Tryz.ntmps41
    go_wp2_with fail
    refine (HM.out w).mono ?_
    rintro e w1 ⟨rfl, rfl⟩
    go_wp2
    go_ret
    exact ⟨rfl, rfl⟩
  · refine fin (true) ?_ (by simp; omega)
    rw [decide_eq_true (by omega)] at h1 h3 h4 h5
    rw [decide_eq_false (by omega)] at h2 h6
    clear a fin
    go_enter Tryz.func41, Tryz.ntmps41
    go_wp2
    go_ret
    exact ⟨rfl, rfl⟩
  · refine fin (decide (0 ≤ j)) ?_ (by simp; omega)
    rw [decide_eq_true (by omega)] at h1 h3 h5
    rw [decide_eq_false (by omega)] at h2 h4 h6
    clear a fin
    go_enter Tryz.func41, Tryz.ntmps41
    go_wp2_with fail
    refine (HM.out w).mono ?_
    rintro e w1 ⟨rfl, rfl⟩
    go_wp2
    go_ret
    exact ⟨rfl, rfl⟩
set_option maxRecDepth 100000 in
set_option maxHeartbeats 400000 in
/-- All of a text's bytes asked. -/
theorem all_any {f : Nat} {p : UInt8 → Bool} (hf : ∀ c w, Calls Tryz.prog f #[B c] w fun e w' => e = .returned (.bool (p c)) ∧ w' = w) (he : ∀ args w, (callFunc f args).run Tryz.prog w = .ok (.enter f args) w)
    (s : List UInt8) (hs : s.length ≤ 100000) (w : World) : Calls Tryz.prog 40 #[S s, .func (.func f) #[] #[]] w fun e w' => e = .returned (.bool (s.all p)) ∧ w' = w := by
  have hlenS := run_len_S (P := Tryz.prog) Tryz.underlying9 3 s
  have HF := Lib.hid hf
  obtain ⟨L, hL⟩ : ∃ L, L = s.length := ⟨_, rfl⟩
  rw [← hL] at hlenS hs
  have HL := Lib.hid hL
  clear hf hL
  go_enter Tryz.func40, Tryz.ntmps40
  go_wp2
  go_loopw [8] (fun iv wr => ∃ i : Nat, i ≤ L ∧ iv = .int .i64 (i : Int) ∧ wr = w ∧ (s.take i).all p = true) (fun iv _ => L - (intOf iv).toNat)
  case atStart => exact ⟨0, by omega, rfl, rfl, rfl⟩
  case round =>
    obtain ⟨i, hi, rfl, rfl, hn⟩ := hrel
    by_cases hlt : i < L
    · obtain ⟨c, hc⟩ : ∃ c, s[i]? = some c := ⟨s[i]'(by have := HL.out; omega), List.getElem?_eq_getElem _⟩
      have hidx : ∀ w, (Instr.index 9 (S s) (.int .i64 (i : Int))).run Tryz.prog w = .ok (B c) w := fun w => index_S (P := Tryz.prog) Tryz.underlying9 s i c hc w
      have hnx := all_take_next hc hn
      have HF2 := Lib.hid (HF.out c wr)
      clear hn hc
      cases hb : p c with
      | true =>
        have HN := Lib.hid (hnx.trans hb)
        have HB := Lib.hid hb
        clear hnx hb
        go_wp2_with fail
        refine HF2.out.mono ?_
        rintro e w1 ⟨rfl, hw1⟩
        obtain rfl := hw1.symm
        rw [HB.out]
        go_wp2
        exact ⟨⟨i + 1, by omega, by go_num, by trivial, HN.out⟩, by simp [intOf]; omega⟩
      | false =>
        have HN : Hid (s.all p = false) := Lib.hid (by rw [hb] at hnx; exact all_of_take hnx)
        have HB := Lib.hid hb
        clear hnx hb
        go_wp2_with fail
        refine HF2.out.mono ?_
        rintro e w1 ⟨rfl, hw1⟩
        obtain rfl := hw1.symm
        rw [HB.out]
        go_wp2
        go_ret
        exact ⟨by rw [HN.out]; rfl, rfl⟩
    · obtain rfl : i = L := by omega
      have HN : Hid (s.all p = true) := Lib.hid (by rw [HL.out, List.take_length] at hn; exact hn)
      clear hn
      go_wp2
      go_ret
      exact ⟨by rw [HN.out]; rfl, rfl⟩
theorem all_tok (s : List UInt8) (hs : s.length ≤ 100000) (w : World) : Calls Tryz.prog 40 #[S s, .func (.func 41) #[] #[]] w fun e w' => e = .returned (.bool (s.all tokB)) ∧ w' = w :=
  all_any intoken_any (enters_of Tryz.func41 (by kernel_rfl) rfl) s hs w
set_option maxRecDepth 100000 in
set_option maxHeartbeats 400000 in
theorem token15_any (s : List UInt8) (hs : s.length ≤ 100000) (w : World) : Calls Tryz.prog 26 #[S s] w fun e w' => e = .returned (.bool (tokF s)) ∧ w' = w := by
  have hc := all_tok s hs w
  have hn : binOp .neq 9 (S s) (.string ⟨#[]⟩) = pure (.bool (s != [])) := neql_S 9 s []
  have hg : ∀ x y, eqGuard .neq 9 x y (S s) (.string ⟨#[]⟩) = pure () := fun x y => nguard_S 9 x y s []
  unfold tokF
  cases s with
  | nil =>
    rw [show (([] : List UInt8) != []) = false from rfl] at hn
    go_enter Tryz.func26, Tryz.ntmps26
    go_wp2
    go_ret
    exact ⟨rfl, rfl⟩
  | cons c r =>
    rw [show ((c :: r) != []) = true from rfl] at hn
    have e : ((c :: r).all tokB && decide (0 < (c :: r).length)) = (c :: r).all tokB := by simp
    rw [e]
    generalize c :: r = s at *
    have HC := Lib.hid hc
    clear hc e
    go_enter Tryz.func26, Tryz.ntmps26
    go_wp2_with fail
    refine HC.out.mono ?_
    rintro e w1 ⟨rfl, rfl⟩
    go_wp2
    go_ret
    exact ⟨rfl, rfl⟩
end Go.Proofs.YtendejpkdjkmnaaGreatDoor
