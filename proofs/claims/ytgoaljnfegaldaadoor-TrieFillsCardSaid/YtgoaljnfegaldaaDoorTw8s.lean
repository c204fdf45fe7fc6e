/- The landed New, Len and Add of tries of strings walked. -/
import Derived.Test.YtgoaljnfegaldaaDoorTw4s
import Derived.Test.YtgoaljnfegaldaaDoorTw7
import Derived.Test.YtgoaljnfegaldaaDoorTv2
import Derived.Test.YtgoaljnfegaldaaDoorGen6
import Derived.Shelf.RegionOpen
namespace Go.Proofs.YtgoaljnfegaldaaDoor
open Go.RowKit Go.Shelf
attribute [local go_sem] store_one S_match S_store

abbrev vls : Txt → Value := S
theorem vls_one (x : Txt) : (vls x).oneCell' = true := rfl
set_option maxRecDepth 100000 in
set_option maxHeartbeats 1000000 in
theorem news_any (mx : Nat) (hmx : mx ≤ 100) (w : World) : Calls Tryd.prog 9 #[.int .i64 (mx : Int)] w fun e w' => ∃ g F, e = .returned (.pointer (some ⟨g, 0, none⟩)) ∧ RTrie vls w' F g mx [] ∧ (∀ k, F k → w.heap.size ≤ k) ∧ Below w.heap.size w w' := by
  have HN := Lib.hid (trie_new vls w mx hmx 57)
  clear hmx
  go_enter Tryd.func9, Tryd.ntmps9
  go_wp2
  go_ret
  exact ⟨w.heap.size, _, rfl, HN.out, fun k hk => by omega, (Below.refl _ w).alloc (Nat.le_refl _) _⟩
section
variable {w : World} {F : Nat → Prop} {g : Nat} {max : Int} {l : Ents Txt} {R : Nat → Option Role} {N M E : List Key → Option Nat} {here : List Key → Option (Txt × Txt)} {bs : List Nat} {C : Nat} {av : Value}
set_option maxRecDepth 100000 in
set_option maxHeartbeats 1000000 in
theorem lens_any (h : TrieAt vls w F g max l R N M E here bs C av) : Calls Tryd.prog 22 #[.pointer (some ⟨g, 0, none⟩)] w fun e w' => e = .returned (.int .i64 (l.length : Int)) ∧ w' = w := by
  have f5 := h.cells.2.1
  have hl := own_len h.own 55 52 3 Tryd.underlying55
  rw [List.length_map, h.bsl] at hl
  clear h
  go_enter Tryd.func22, Tryd.ntmps22
  go_wp2
  go_ret
  exact ⟨rfl, rfl⟩
theorem elemEs : Elem Tryd.prog 52 := elem_of (z := .pointer none) (n := 8) (by kernel_rfl) (by omega) rfl
set_option maxRecDepth 100000 in
set_option maxHeartbeats 2000000 in
theorem adds_any (h : TrieAt vls w F g max l R N M E here bs C av) (p : Txt) (x : Txt) (hpl : p.length ≤ 200) (hm : MaxAt w) :
    Calls Tryd.prog 10 #[.pointer (some ⟨g, 0, none⟩), S p, vls x] w fun e w' => e = .returned (.int .i64 ((addE max l p x).1 : Int)) ∧ ∃ F', RTrie vls w' F' g max (addE max l p x).2 ∧ Moves F F' w w' := by
  obtain ⟨PO, hPO⟩ : ∃ PO : Ending → World → Prop, PO = fun e w' => e = .returned (.int .i64 ((addE max l p x).1 : Int)) ∧ ∃ F', RTrie vls w' F' g max (addE max l p x).2 ∧ Moves F F' w w' := ⟨_, rfl⟩
  rw [← hPO]
  have HSAME : Hid (∀ n, addE max l p x = (n, l) → ∀ W, Below w.heap.size w W → PO (.returned (.int .i64 (n : Int))) W) := Lib.hid fun n hn W hB => by
    rw [hPO, hn]; exact ⟨rfl, F, ⟨_, _, _, _, _, _, _, _, h.below hB⟩, Moves.of_below hB⟩
  have HNEW : Hid (addE max l p x = (0, l ++ [(p, x)]) → ∀ W3, Below w.heap.size w W3 → ∀ W F', RTrie vls W F' g max (l ++ [(p, x)]) → Moves F F' W3 W → PO (.returned (.int .i64 0)) W) := Lib.hid fun hn W3 hB W F' h1 h2 => by
    rw [hPO, hn]; exact ⟨rfl, F', h1, (Moves.of_below hB).trans h2⟩
  have HR := Lib.hid (right_any p hpl w hm)
  have H := Lib.hid h
  have HM := Lib.hid hm
  have HPL := Lib.hid hpl
  clear h hpl hm hPO
  cases hs : segsF p with
  | none =>
    rw [hs] at HR
    have HP := Lib.hid (HSAME.out 8 (by unfold addE; rw [hs]))
    clear hs
    go_enter Tryd.func10, Tryd.ntmps10
    go_wp2_with fail
    refine HR.out.mono ?_
    rintro e W ⟨rfl, hB⟩
    have HB := Lib.hid hB
    clear hB
    go_wp2
    first | (go_ret2; exact HP.out _ HB.out) | exact HP.out _ HB.out
  | some s =>
    rw [hs] at HR
    obtain ⟨h0, hcut, -⟩ := segsF_head hs
    have hsl : s.length ≤ 201 := by rw [hcut]; have := cutS_len p; have := HPL.out; omega
    have hTI := tidy_ok s [] (segsF_head hs).2.2
    have heach : ∀ y ∈ s, y.length ≤ 200 := fun y hy => by rw [hcut] at hy; have := cutS_each p y hy; have := HPL.out; omega
    have hne : p ≠ [] := by rintro rfl; cases h0
    have HTW : Hid (∀ W, Below w.heap.size w W → Calls Tryd.prog 21 #[.pointer (some ⟨g, 0, none⟩), S p] W fun e w' => e = .returned (ptrO (E (keysF s))) ∧ Below W.heap.size W w') := Lib.hid fun W hB =>
      twins_any (H.out.below hB).nodes p s hs HPL.out (HM.out.below hB)
    have htw := H.out.twin s
    cases hE : E (keysF s) with
    | some eb =>
      rw [hE] at HTW htw
      have HP := Lib.hid (HSAME.out 5 (by unfold addE; rw [hs]; dsimp only; rw [if_pos (by rw [← htw]; rfl)]))
      clear hs h0 hcut hsl heach hne hE htw hTI
      go_enter Tryd.func10, Tryd.ntmps10
      go_wp2_with fail
      refine HR.out.mono ?_
      rintro e W ⟨rfl, hB⟩
      have HB := Lib.hid hB
      clear hB
      go_wp2_with fail
      refine (HTW.out W HB.out).mono ?_
      rintro e W2 ⟨rfl, hB⟩
      have HB2 := Lib.hid (HB.out.trans (hB.mono HB.out.size))
      clear hB
      unfold ptrO
      go_wp2
      first | (go_ret2; exact HP.out _ HB2.out) | exact HP.out _ HB2.out
    | none =>
      rw [hE] at HTW htw
      have HLN : Hid (∀ W, Below w.heap.size w W → Calls Tryd.prog 22 #[.pointer (some ⟨g, 0, none⟩)] W fun e w' => e = .returned (.int .i64 (l.length : Int)) ∧ w' = W) := Lib.hid fun W hB => lens_any (H.out.below hB)
      obtain ⟨LN, hLN⟩ : ∃ L, L = l.length := ⟨_, rfl⟩
      rw [← hLN] at HLN
      have HSG : Hid (∀ W, Below w.heap.size w W → Calls Tryd.prog 23 #[S p] W fun e w' => ∃ V b, e = .returned V ∧ TA w' V s b 0 ∧ Below W.heap.size W w' ∧ (s = [] ∨ W.heap.size ≤ b)) := Lib.hid fun W hB => by
        have := segments_any p hne (by have := HPL.out; omega) W (HM.out.below hB)
        rw [← hcut] at this
        exact this
      have HE := Lib.hid hE
      have HS := Lib.hid hs
      have HEA := Lib.hid heach
      have HTI := Lib.hid hTI
      by_cases hmx : max ≤ (LN : Int)
      case pos =>
        have gm : decide (max ≤ (LN : Int)) = true := decide_eq_true hmx
        have HP := Lib.hid (HSAME.out 6 (by unfold addE; rw [hs]; dsimp only; rw [if_neg (by rw [← htw]; exact Bool.false_ne_true), if_pos (by rw [← hLN]; exact hmx)]))
        clear hs h0 hcut hsl heach hne hE htw hLN hTI
        go_enter Tryd.func10, Tryd.ntmps10
        go_wp2_with fail
        refine HR.out.mono ?_
        rintro e W ⟨rfl, hB⟩
        have HB := Lib.hid hB
        clear hB
        go_wp2_with fail
        refine (HTW.out W HB.out).mono ?_
        rintro e W2 ⟨rfl, hB⟩
        have HB2 := Lib.hid (HB.out.trans (hB.mono HB.out.size))
        clear hB
        have c0 := (H.out.below HB2.out).cells.1
        unfold ptrO
        go_wp2
        go_quiet (first | (go_at_call 22; exact Calls.quiet_of_same (HLN.out _ (HB2.out.trans ((below_drewN _ _).mono HB2.out.size)))))
        have HB3 := Lib.hid (HB2.out.trans ((below_drewN W2 nq).mono HB2.out.size))
        go_wp2
        first | (go_ret2; exact HP.out _ HB3.out) | exact HP.out _ HB3.out
      case neg =>
        have gm : decide (max ≤ (LN : Int)) = false := decide_eq_false hmx
        have HP := Lib.hid (HNEW.out (by unfold addE; rw [hs]; dsimp only; rw [if_neg (by rw [← htw]; exact Bool.false_ne_true), if_neg (by rw [← hLN]; exact hmx)]))
        have HMX : Hid (¬ max ≤ (l.length : Int)) := Lib.hid (by rw [← hLN]; exact hmx)
        have HSL := Lib.hid hsl
        clear hs h0 hcut heach hne hE htw hLN hTI
        go_enter Tryd.func10, Tryd.ntmps10
        go_wp2_with fail
        refine HR.out.mono ?_
        rintro e W ⟨rfl, hB⟩
        have HB := Lib.hid hB
        clear hB
        go_wp2_with fail
        refine (HTW.out W HB.out).mono ?_
        rintro e W2 ⟨rfl, hB⟩
        have HB2 := Lib.hid (HB.out.trans (hB.mono HB.out.size))
        clear hB
        have c0 := (H.out.below HB2.out).cells.1
        unfold ptrO
        go_wp2
        go_quiet (first | (go_at_call 22; exact Calls.quiet_of_same (HLN.out _ (HB2.out.trans ((below_drewN _ _).mono HB2.out.size)))))
        have HB3 := Lib.hid (HB2.out.trans ((below_drewN W2 nq).mono HB2.out.size))
        clear c0
        go_wp2_with fail
        refine (HSG.out _ HB3.out).mono ?_
        rintro e W3 ⟨V, vb, rfl, hT, hB, hvb⟩
        have HB4 := Lib.hid (HB3.out.trans (hB.mono HB3.out.size))
        have hT3 := H.out.below HB4.out
        have hlV := fun w' => hT.len 3 w'
        obtain ⟨L, hL⟩ : ∃ L, L = s.length := ⟨_, rfl⟩
        rw [← hL] at hlV
        have HL := Lib.hid hL
        have HI : Hid (GrowAt W3 g R N E C max av s 0 g W3) := Lib.hid ⟨R, N, M, hT3.nodes, by rw [List.take_zero]; exact hT3.nodes.root, Grew.refl _ _, fun _ h => h⟩
        have HTG : Hid (∀ (R' : Nat → Option Role) (wr : World), Grew R R' W3 wr → ∀ i y, s[i]? = some y → wr.cell? ⟨vb, 0 + i, none⟩ = some (S y)) := Lib.hid fun R' wr hg i y hy => by
          have hc := hT.cell i y hy
          have hlt := World.block_lt_of_cell? W3 _ hc
          have hge := hvb.resolve_left fun e => by rw [e] at hy; simp at hy
          have hno : ∀ r, R vb ≠ some r := fun r e => by
            have h1 := (H.out.below HB3.out).nodes.lt vb r e
            omega
          rw [World.cell?_of_block (w := W3) (hg.rest vb hlt fun k' => ⟨hno _, hno _⟩)]
          exact hc
        have HT3 := Lib.hid hT3
        have HIX : Hid (∀ i, i < L → ∀ w', (Instr.indexAt 22 V (.int .i64 (i : Int))).run Tryd.prog w' = .ok (.pointer (some ⟨vb, 0 + i, none⟩)) w') := Lib.hid fun i hi w' => hT.index i (by rw [← hL]; exact hi) w'
        clear hT hB hvb hT3 hL
        go_wp2
        have HLL : Hid (L ≤ 201) := Lib.hid (by have := HSL.out; rw [HL.out]; exact this)
        go_loopw [7, 32] (fun nv iv wr => ∃ (i b o : Nat), i ≤ L ∧ nv = .pointer (some ⟨b, o, none⟩) ∧ iv = .int .i64 (i : Int) ∧ Hid (o = offK (keysF (s.take i)) ∧ GrowAt W3 g R N E C max av s i b wr)) (fun _ iv _ => L - (intOf iv).toNat)
        case atStart => exact ⟨0, g, 1, Nat.zero_le _, rfl, rfl, Lib.hid ⟨rfl, HI.out⟩⟩
        case round =>
          obtain ⟨i, b, o, hi, rfl, rfl, HG⟩ := hrel
          have hL201 := HLL.out
          obtain ⟨R', N', M', hn, hNb, hgrew, hdom⟩ := HG.out.2.ex
          by_cases hlt : i < L
          case pos =>
            have g1 : decide ((i : Int) < (L : Int)) = true := decide_eq_true (by omega)
            have hw1 : IntKind.i64.wrap ((i : Int) + 1) = (i : Int) + 1 := by rw [IntKind.wrap_i64]; omega
            obtain ⟨y, hy⟩ : ∃ y, s[i]? = some y := ⟨s[i]'(by have := HL.out; omega), List.getElem?_eq_getElem _⟩
            have hix := HIX.out i hlt
            have hcell := HTG.out R' wr hgrew i y hy
            obtain ⟨q, hq⟩ : ∃ q, q = 0 + i := ⟨_, rfl⟩
            rw [← hq] at hix hcell
            have hyn := (tidy_at HTI.out hy).1
            have hfew := HT3.out.few
            have hgr := grows_any hn (keysF (s.take i)) b hNb y hyn (by have := HEA.out y (List.mem_of_getElem? hy); omega) (by omega)
            rw [← HG.out.1] at hgr
            have HGR := Lib.hid hgr
            have HNX : Hid (∀ b' w', Grown wr g R' N' E (C + i) max av (keysF (s.take i)) (keyS y) b' w' → 0 = offK (keysF (s.take (i + 1))) ∧ GrowAt W3 g R N E C max av s (i + 1) b' w') := Lib.hid fun b' w' h => ⟨by
              have : keysF (s.take i) ++ [keyS y] = keysF (s.take (i + 1)) := by
                rw [(drop_at hy).2]; unfold keysF; rw [List.map_append]; rfl
              rw [← this, offK_snoc], GrowAt.next hy hgrew hdom h⟩
            clear hn hNb hgrew hdom hy hq hyn hfew hgr hL201
            go_wp2_with fail
            refine HGR.out.mono ?_
            rintro e W5 ⟨b', rfl, hG⟩
            have HG5 := Lib.hid (HNX.out b' W5 hG)
            clear hG
            go_wp2
            exact ⟨⟨i + 1, b', 0, by omega, by trivial, by go_num, HG5⟩, by simp [intOf]; omega⟩
          case neg =>
            obtain rfl : i = L := by omega
            have g1 : decide ((i : Int) < (i : Int)) = false := decide_eq_false (by omega)
            have hfin := (hn.node _ b hNb)
            rw [← HG.out.1] at hfin
            have hal := hfin.same (w' := wr.alloc (.cells #[S p, vls x] 62)) (heap_alloc_old wr _ hfin.lt) (fun m hm => heap_alloc_old wr _ (hn.lt m _ (hn.mR _ m hm).1))
            have f3 := hal.fin.1
            have f4 := hal.fin.2
            have hkl : keysF (s.take i) = keysF s := by rw [HL.out, List.take_length]
            have hks3 := hgrew.size
            have hRb := hn.nR _ b hNb
            have hRg := hn.rootR
            have har : ∀ y, av.ownBlock = some y → R' y = some .ar := fun y hy => hgrew.keep _ _ (HT3.out.ownR y hy)
            have hbav : ∀ y, av.ownBlock = some y → y ≠ b := fun y hy e => by
              have := har y hy
              rw [e, hRb] at this; cases this
            have hgav : ∀ y, av.ownBlock = some y → y ≠ g := fun y hy e => by
              have := har y hy
              rw [e, hRg] at this; cases this
            have hownr : Own 0 av (bs.map ptV) wr := HT3.out.own.of_block hks3 fun y hy => by
              have h0 := HT3.out.ownR y hy
              exact hgrew.rest y (HT3.out.nodes.lt y _ h0) fun k' => ⟨fun e => (by rw [h0] at e; cases e), fun e => (by rw [h0] at e; cases e)⟩
            have hbl := hn.lt b _ hRb
            have hgl := hn.lt g _ hRg
            have hk6 := Keeps.setCell (b := b) (wr.alloc (.cells #[S p, vls x] 62)) (o + 3) (ptV wr.heap.size)
            obtain ⟨W6, hW6⟩ : ∃ W, W = (wr.alloc (.cells #[S p, vls x] 62)).setCell ⟨b, o + 3, none⟩ (ptV wr.heap.size) := ⟨_, rfl⟩
            rw [← hW6] at hk6
            have hsz6 : W6.heap.size = wr.heap.size + 1 := by rw [hW6]; simp [World.setCell]
            have hown6 : Own 0 av (bs.map ptV) W6 := hownr.of_block (by omega) fun y hy => by
              have hy0 := hn.lt y _ (har y hy)
              exact (hk6.block y (by rw [alloc_size]; omega) (hbav y hy)).trans (heap_alloc_old wr _ hy0)
            have ht6 : W6.cell? ⟨b, o + 3, none⟩ = some (ptV wr.heap.size) := by
              obtain ⟨cs, tt, hr, _, _, _, h3⟩ := hal.row
              rw [hW6, cell_of_row _ b (o + 3) _ tt (0, 0) (hr.set (o + 3) (ptV wr.heap.size))]
              exact set_at h3
            have hg6 : ∃ cs tt, Row W6 g cs tt ∧ cs[5]? = some av := by
              have h1 := hn.setEnd hNb #[S p, vls x] 62
              rw [← HG.out.1, ← hW6] at h1
              obtain ⟨cs, tt, hr, _, h5⟩ := h1.top
              exact ⟨cs, tt, hr, h5⟩
            obtain ⟨Wq, hWq⟩ : ∃ W, W = W6.drew := ⟨_, rfl⟩
            have hownq : Own 0 av (bs.map ptV) Wq := by rw [hWq]; exact hown6
            have htq : Wq.cell? ⟨b, o + 3, none⟩ = some (ptV wr.heap.size) := by rw [hWq]; exact ht6
            obtain ⟨csg, ttg, hrg, hg5⟩ : ∃ cs tt, Row Wq g cs tt ∧ cs[5]? = some av := by rw [hWq]; exact hg6
            have hszq : Wq.heap.size = wr.heap.size + 1 := by rw [hWq]; exact hsz6
            have hgq : Wq.cell? ⟨g, 5, none⟩ = some av := by rw [cell_of_row _ g 5 csg ttg (0, 0) hrg]; exact hg5
            have hfew := HT3.out.few
            have hbsl := HT3.out.bsl
            obtain ⟨k7, c7, W7, hr7, ho7, hg7, hk7, hl7⟩ := own_moreP hownq Tryd.underlying55 elemEs 55 (ptV wr.heap.size) rfl (by rw [List.length_map]; omega)
            rw [List.length_map, hbsl] at hr7 ho7
            have hrg7 : Row W7 g csg ttg := row_grown hrg hg7 fun e => hgav g e.symm rfl
            have hg57 : W7.cell? ⟨g, 5, none⟩ = some av := by rw [cell_of_row _ g 5 csg ttg (0, 0) hrg7]; exact hg5
            have hgf7 := hrg7.frozen 5
            have hpush := HT3.out.push HS.out HPL.out x HE.out (by have := HMX.out; omega) HSL.out (b := b) (by
              have := HG.out.2
              rwa [HL.out] at this) 62 ho7 (by
              rw [← hkl, ← HG.out.1, ← hW6, ← hWq]; exact hg7) (hk7.imp id fun e => by omega) hl7
            have HPU := Lib.hid hpush
            obtain ⟨LL, hLL⟩ : ∃ L, L = l.length + 1 := ⟨_, rfl⟩
            rw [← hLL] at hr7 HPU
            have HR7 := Lib.hid hr7
            obtain ⟨eb, heb⟩ : ∃ eb, eb = wr.heap.size := ⟨_, rfl⟩
            rw [← heb] at HR7 htq ht6
            have hgqA : (Wq.alloc (.cells #[.pointer (some ⟨eb, 0, none⟩)] 52)).cell? ⟨g, 5, none⟩ = some av := by
              rw [cell_of_row _ g 5 csg ttg (0, 0) (hrg.alloc _)]; exact hg5
            have HS6 : Hid (((wr.alloc (.cells #[S p, vls x] 62)).setCell ⟨b, o + 3, none⟩ (.pointer (some ⟨wr.heap.size, 0, none⟩))).cell? ⟨b, o + 3, none⟩ = some (.pointer (some ⟨eb, 0, none⟩))) := Lib.hid (by rw [hW6] at ht6; exact ht6)
            have HSQ : Hid (Wq.cell? ⟨b, o + 3, none⟩ = some (.pointer (some ⟨eb, 0, none⟩))) := Lib.hid htq
            have hbq : b < Wq.heap.size := by omega
            have HSA : Hid ((Wq.alloc (.cells #[.pointer (some ⟨eb, 0, none⟩)] 52)).cell? ⟨b, o + 3, none⟩ = some (.pointer (some ⟨eb, 0, none⟩))) := Lib.hid (by
              rw [World.cell?_of_block (w := Wq) (heap_alloc_old Wq _ hbq)]; exact htq)
            have hs7 : W7.cell? ⟨b, o + 3, none⟩ = some (.pointer (some ⟨eb, 0, none⟩)) := by
              rw [World.cell?_of_block (w := Wq) (hg7.block b hbq fun e => hbav b e.symm rfl)]; exact htq
            have HS7 := Lib.hid hs7
            have HS8 : Hid ((W7.setCell ⟨g, 5, none⟩ (.slice (some ⟨k7, 0, none⟩) LL c7)).cell? ⟨b, o + 3, none⟩ = some (.pointer (some ⟨eb, 0, none⟩))) := Lib.hid (by
              by_cases e : b = g
              · obtain ⟨cs, tt, hr, h3, -⟩ := hn.rowOf hNb
                have ho1 : o + 3 ≠ 5 := by
                  rw [HG.out.1]
                  cases keysF (s.take i) with
                  | nil => decide
                  | cons a r => simp [offK]
                have hrr := hrg7.set 5 (.slice (some ⟨k7, 0, none⟩) LL c7)
                rw [e] at hs7 ⊢
                rw [cell_of_row _ g (o + 3) csg ttg (0, 0) hrg7] at hs7
                rw [cell_of_row _ g (o + 3) _ ttg (0, 0) hrr]
                exact set_far hs7 (Ne.symm ho1)
              · rw [World.cell?_of_block (w := W7) (Below.heap_setCell _ _ _ _ e)]; exact hs7)
            clear hbq hs7
            have HW6 : Hid (Wq = ((wr.alloc (.cells #[S p, vls x] 62)).setCell ⟨b, o + 3, none⟩ (.pointer (some ⟨wr.heap.size, 0, none⟩))).drew) := Lib.hid (by rw [hWq, hW6])
            have HEQ := Lib.hid heb
            clear hr7 ho7 hg7 hk7 hl7 hpush hLL hrg7 hrg hg5 hg6 hownq hown6 ht6 hsz6 hszq hW6 hWq hk6 hbl hgl hownr hgav hbav har hRg hRb hks3 hfin hal hkl hn hNb hgrew hdom hfew hbsl heb hL201
            go_wp2
            refine wp_region_noPanic ?_
            refine wp_region_held_drew (S := fun wx => wx.cell? ⟨b, o + 3, none⟩ = some (.pointer (some ⟨eb, 0, none⟩))) (by kernel_rfl) HS6.out (fun _ => ?_)
            rw [← HW6.out]
            clear f3 f4
            refine take_at (i := 0) (d := some 47) (v := .pointer (some ⟨g, 0, none⟩)) rfl (by kernel_rfl) (by kernel_rfl) (by kernel_rfl) (fun _ _ _ h => h) (fun oi ho => ?_) HSQ.out ?_
            · obtain rfl := Option.some.inj ho
              exact Or.inl ⟨by rfl, fun wx hSw => by go_simp⟩
            simp only [Act.put, List.setIfInBounds_toArray, List.set_cons_zero, List.set_cons_succ]
            refine take_at (i := 1) (d := some 48) (v := .pointer (some ⟨g, 0, none⟩)) rfl (by kernel_rfl) (by kernel_rfl) (by kernel_rfl) (fun _ _ _ h => h) (fun oi ho => ?_) HSQ.out ?_
            · obtain rfl := Option.some.inj ho
              exact Or.inl ⟨by rfl, fun wx hSw => by go_simp⟩
            simp only [Act.put, List.setIfInBounds_toArray, List.set_cons_zero, List.set_cons_succ]
            refine take_at (i := 2) (d := some 49) (v := .pointer (some ⟨g, 0, none⟩)) rfl (by kernel_rfl) (by kernel_rfl) (by kernel_rfl) (fun _ _ _ h => h) (fun oi ho => ?_) HSQ.out ?_
            · obtain rfl := Option.some.inj ho
              exact Or.inl ⟨by rfl, fun wx hSw => by go_simp⟩
            simp only [Act.put, List.setIfInBounds_toArray, List.set_cons_zero, List.set_cons_succ]
            refine take_at (i := 3) (d := some 50) (v := .pointer (some ⟨g, 5, none⟩)) rfl (by kernel_rfl) (by kernel_rfl) (by kernel_rfl) (fun _ _ _ h => h) (fun oi ho => ?_) HSQ.out ?_
            · obtain rfl := Option.some.inj ho
              exact Or.inl ⟨by rfl, fun wx hSw => by go_simp⟩
            simp only [Act.put, List.setIfInBounds_toArray, List.set_cons_zero, List.set_cons_succ]
            refine take_at (i := 5) (d := some 52) (v := .pointer (some ⟨b, o, none⟩)) rfl (by kernel_rfl) (by kernel_rfl) (by kernel_rfl) (fun _ _ _ h => h) (fun oi ho => ?_) HSQ.out ?_
            · obtain rfl := Option.some.inj ho
              exact Or.inl ⟨by rfl, fun wx hSw => by go_simp⟩
            simp only [Act.put, List.setIfInBounds_toArray, List.set_cons_zero, List.set_cons_succ]
            refine take_at (i := 6) (d := some 53) (v := .pointer (some ⟨b, o, none⟩)) rfl (by kernel_rfl) (by kernel_rfl) (by kernel_rfl) (fun _ _ _ h => h) (fun oi ho => ?_) HSQ.out ?_
            · obtain rfl := Option.some.inj ho
              exact Or.inl ⟨by rfl, fun wx hSw => by go_simp⟩
            simp only [Act.put, List.setIfInBounds_toArray, List.set_cons_zero, List.set_cons_succ]
            refine take_at (i := 7) (d := some 54) (v := .pointer (some ⟨b, o + 3, none⟩)) rfl (by kernel_rfl) (by kernel_rfl) (by kernel_rfl) (fun _ _ _ h => h) (fun oi ho => ?_) HSQ.out ?_
            · obtain rfl := Option.some.inj ho
              exact Or.inl ⟨by rfl, fun wx hSw => by go_simp⟩
            simp only [Act.put, List.setIfInBounds_toArray, List.set_cons_zero, List.set_cons_succ]
            refine take_at (i := 8) (d := some 55) (v := .pointer (some ⟨eb, 0, none⟩)) rfl (by kernel_rfl) (by kernel_rfl) (by kernel_rfl) (fun _ _ _ h => h) (fun oi ho => ?_) HSQ.out ?_
            · obtain rfl := Option.some.inj ho
              exact Or.inl ⟨by rfl, fun wx hSw => by go_simp⟩
            simp only [Act.put, List.setIfInBounds_toArray, List.set_cons_zero, List.set_cons_succ]
            refine ready_load_make (i := 4) (j := 9) (di := some 51) (dj := some 56) (vi := av) (vj := .slice (some ⟨Wq.heap.size, 0, none⟩) 1 1) (w1 := Wq.alloc (.cells #[.pointer (some ⟨eb, 0, none⟩)] 52)) rfl rfl (by kernel_rfl) (by kernel_rfl) (by kernel_rfl) (by decide) (by intro d h e; rw [← h] at e; exact absurd e (by decide)) (fun oi ho => ?_) (fun oj ho a' ha => ?_) HSQ.out HSA.out ?_
            · obtain rfl := Option.some.inj ho
              exact ⟨⟨by rfl, by go_simp⟩, ⟨by rfl, by go_simp⟩⟩
            · obtain rfl := Option.some.inj ho
              rcases ha with rfl | rfl
              · exact ⟨by rfl, by go_simp⟩
              · exact ⟨by rfl, by go_simp⟩
            simp only [Act.put, List.setIfInBounds_toArray, List.set_cons_zero, List.set_cons_succ]
            refine ready_value (i := 10) (d := some 57) (v := .slice (some ⟨k7, 0, none⟩) LL c7) (w' := W7) rfl (by kernel_rfl) (fun oi ho => ?_) HS7.out ?_
            · obtain rfl := Option.some.inj ho
              exact ⟨by rfl, exec_append 55 55 (.tmp 51) (.tmp 56) av (.slice (some ⟨Wq.heap.size, 0, none⟩) 1 1) rfl rfl rfl HR7.out⟩
            simp only [Act.put, List.setIfInBounds_toArray, List.set_cons_zero, List.set_cons_succ]
            refine take_at (i := 11) (d := some 58) (v := .pointer (some ⟨g, 0, none⟩)) rfl (by kernel_rfl) (by kernel_rfl) (by kernel_rfl) (fun _ _ _ h => h) (fun oi ho => ?_) HS7.out ?_
            · obtain rfl := Option.some.inj ho
              exact Or.inl ⟨by rfl, fun wx hSw => by go_simp⟩
            simp only [Act.put, List.setIfInBounds_toArray, List.set_cons_zero, List.set_cons_succ]
            refine take_at (i := 12) (d := some 59) (v := .pointer (some ⟨g, 5, none⟩)) rfl (by kernel_rfl) (by kernel_rfl) (by kernel_rfl) (fun _ _ _ h => h) (fun oi ho => ?_) HS7.out ?_
            · obtain rfl := Option.some.inj ho
              exact Or.inl ⟨by rfl, fun wx hSw => by go_simp⟩
            simp only [Act.put, List.setIfInBounds_toArray, List.set_cons_zero, List.set_cons_succ]
            refine ready_skip (i := 13) (d := none) (w' := W7.setCell ⟨g, 5, none⟩ (.slice (some ⟨k7, 0, none⟩) LL c7)) rfl (by kernel_rfl) (fun oi ho => ?_) HS8.out ?_
            · obtain rfl := Option.some.inj ho
              exact ⟨by rfl, by go_simp⟩
            refine wpAnyH_done (by kernel_rfl) ?_ _
            refine NoPanic.normal ?_
            obtain ⟨F', hf1, hf2⟩ := HPU.out
            have HF := Lib.hid (HP.out W3 HB4.out _ F' hf1 hf2)
            clear hf1 hf2
            go_wp2
            first | (go_ret2; exact HF.out) | exact HF.out
end
end Go.Proofs.YtgoaljnfegaldaaDoor
