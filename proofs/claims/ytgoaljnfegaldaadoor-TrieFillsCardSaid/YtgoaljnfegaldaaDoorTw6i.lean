/- The landed best of tries of ints walked. -/
import Derived.Test.YtgoaljnfegaldaaDoorTw5i
namespace Go.Proofs.YtgoaljnfegaldaaDoor
open Go.RowKit
attribute [local go_sem] store_one S_match S_store

/-- A search so far. -/
structure BestAti (w : World) (N E : List Key → Option Nat) (path : List Txt) (ANS : Option Nat) (ov : Value) (n : Nat) (wr : World) (st : List Plc) : Prop where
  own : wr.ownsRow w.heap.size 89 2 ov n (pcells N st)
  bel : Below w.heap.size w wr
  opens : Opens N path.length st
  cost : stCost path.length st ≤ 797161
  ok : srch (domN N) E path st = ANS
theorem BestAti.len {w : World} {N E : List Key → Option Nat} {path : List Txt} {ANS : Option Nat} {ov : Value} {n : Nat} {wr : World} {st : List Plc} (h : BestAti w N E path ANS ov n wr st) : n = st.length := by
  have h1 := h.own.1
  rw [pcells_len] at h1
  omega
set_option maxRecDepth 100000 in
set_option maxHeartbeats 2000000 in
theorem besti_any {w : World} {g : Nat} {R : Nat → Option Role} {N M E : List Key → Option Nat} {C : Nat} {mx : Int} {av : Value} (hN : Nodes w g R N M E C mx av) (path : List Txt) (Vp : Value) (bp op : Nat) (hT : TA w Vp path bp op) (hP : path.length ≤ 12 ∧ ∀ x ∈ path, x.length ≤ 40) :
    Calls Tryd.prog 29 #[.pointer (some ⟨g, 1, none⟩), Vp] w fun e w' => e = .returned (ptrO (findK (domN N) E [] path)) ∧ Below w.heap.size w w' := by
  obtain ⟨ANS, hANS⟩ : ∃ A, A = findK (domN N) E [] path := ⟨_, rfl⟩
  rw [← hANS]
  have hlp := fun w' => hT.len 3 w'
  obtain ⟨LP, hLP⟩ : ∃ L, L = path.length := ⟨_, rfl⟩
  rw [← hLP] at hlp
  have HLP := Lib.hid hLP
  have HN := Lib.hid hN
  have HT := Lib.hid hT
  have HP := Lib.hid hP
  have HI : Hid (BestAti w N E path ANS (.slice (some ⟨w.heap.size, 0, none⟩) 1 1) 1 (w.alloc (.cells #[.pointer (some ⟨g, 1, none⟩), .int .i64 0] 89)) [([], 0)]) := Lib.hid (by
    have hc : pcells N [([], 0)] = [.pointer (some ⟨g, 1, none⟩), .int .i64 0] := by
      show [adrV N [], .int .i64 ((0 : Nat) : Int)] = _
      rw [adrV_some hN.root]; rfl
    refine ⟨?_, (Below.refl _ w).alloc (Nat.le_refl _) _, opens_one hN.root (Nat.zero_le _), ?_, ?_⟩
    · rw [hc]
      exact ⟨rfl, .inr ⟨w.heap.size, 1, _, rfl, Nat.le_refl _, heap_alloc_new w _, Nat.le_refl _, by simp [maxLen], rfl, rfl⟩⟩
    · rw [stCost_one]; exact cost12 (by have := hP.1; show path.length - 0 ≤ 12; omega)
    · have := srch_snoc (dom := domN N) (here := E) (path := path) [] ([], 0)
      rw [List.nil_append] at this
      rw [this, srch_nil, Option.or_none, hANS]; rfl)
  clear hLP hN hT hP hANS
  go_enter Tryd.func29, Tryd.ntmps29
  go_wp2
  go_loopw [5] (fun ov wr => ∃ (a : Option Addr) (n c : Nat), ov = .slice a n c ∧ Hid (∃ st, BestAti w N E path ANS (.slice a n c) n wr st)) (fun ov wr => costL path.length (rowOf ov wr))
  case atStart => exact ⟨some ⟨w.heap.size, 0, none⟩, 1, 1, rfl, Lib.hid ⟨_, HI.out⟩⟩
  case round =>
    obtain ⟨a, n, c, rfl, HR⟩ := hrel
    obtain ⟨st, hS⟩ := HR.out
    have hn := hS.len
    by_cases h0 : n = 0
    case pos =>
      subst h0
      have hst : st = [] := List.length_eq_zero_iff.1 hn.symm
      have HA : Hid (ANS = none) := Lib.hid (by have := hS.ok; rw [hst, srch_nil] at this; exact this.symm)
      have HB := Lib.hid hS.bel
      clear hS hn hst HR
      go_wp2
      go_ret
      exact ⟨by rw [HA.out]; rfl, HB.out⟩
    case neg =>
      have hz : decide (0 < n) = true := decide_eq_true (by omega)
      obtain ⟨m, hm⟩ : ∃ m, n = m + 1 := ⟨n - 1, by omega⟩
      obtain ⟨st', q, hsq⟩ : ∃ st' q, st = st' ++ [q] := by
        rcases List.eq_nil_or_concat st with h | ⟨st', q, h⟩
        · rw [h] at hn; simp at hn; omega
        · exact ⟨st', q, by rw [h, List.concat_eq_append]⟩
      subst hsq
      have hm' : st'.length = m := by rw [List.length_append, List.length_singleton] at hn; omega
      have hw0 : IntKind.i64.wrap ((n : Int) - 1) = (m : Int) := by
        have h1 := st_len path.length (st' ++ [q])
        have h2 := hS.cost
        rw [IntKind.wrap_i64]; omega
      obtain ⟨gb, c1', hv, hbase, hgl, hsl, hown, hidx, hcell⟩ := own_first hS.own Tryd.underlying90 Tryd.sizeOf89 m (by omega)
      injection hv with e1 e2 e3
      subst e1 e3
      clear e2
      have hix := fun W => hidx m (by omega) W
      have hpc : pcells N (st' ++ [q]) = pcells N st' ++ [adrV N q.1, .int .i64 (q.2 : Int)] := pcells_snoc N st' q
      have hpl : (pcells N st').length = m * 2 := by rw [pcells_len, hm']
      obtain ⟨b, hb⟩ := hS.opens.node q (by simp)
      have hread := hS.opens.read q (by simp)
      have c0 : wr.cell? ⟨gb, m * 2, none⟩ = some (.pointer (some ⟨b, offK q.1, none⟩)) := hcell (m * 2) _ (by rw [hpc, List.getElem?_append_right (by omega), hpl, Nat.sub_self, adrV_some hb]; rfl)
      have c1 : wr.cell? ⟨gb, m * 2 + 1, none⟩ = some (.int .i64 (q.2 : Int)) := hcell (m * 2 + 1) _ (by rw [hpc, List.getElem?_append_right (by omega), hpl, show m * 2 + 1 - m * 2 = 1 by omega]; rfl)
      rw [hpc, List.take_left' hpl] at hown
      have hsrch := hS.ok
      rw [srch_snoc] at hsrch
      have hcost := hS.cost
      have hvar : costL path.length (rowOf (.slice (some ⟨gb, 0, none⟩) n c) wr) = stCost path.length (st' ++ [q]) := by rw [rowOf_owns hS.own, costL_is]
      have HOP : Hid (Opens N path.length st') := Lib.hid ⟨fun p hp => hS.opens.node p (List.mem_append_left _ hp), fun p hp => hS.opens.read p (List.mem_append_left _ hp)⟩
      obtain ⟨mm, hmm⟩ : ∃ mm, mm = m * 2 := ⟨_, rfl⟩
      rw [← hmm] at hix c0 c1
      obtain ⟨o, ho⟩ : ∃ o, o = offK q.1 := ⟨_, rfl⟩
      rw [← ho] at c0
      have hbox := (Below.refl _ wr).alloc (Nat.le_refl _) (.cells #[.pointer (some ⟨b, o, none⟩), .int .i64 (q.2 : Int)] 89)
      have hB2 := hS.bel.trans (hbox.mono hS.bel.size)
      have HB2 := Lib.hid hB2
      have hown2 := own_below hown hbox
      have HW2 := Lib.hid hown2
      have hm9 : m ≤ 900000 := by
        have h1 := st_len path.length (st' ++ [q])
        rw [List.length_append, List.length_singleton] at h1
        omega
      obtain ⟨k, r⟩ := q
      by_cases hr : r < LP
      case pos =>
        have g1 : decide ((r : Int) < (LP : Int)) = true := decide_eq_true (by omega)
        obtain ⟨x, hx⟩ : ∃ x, path[r]? = some x := ⟨path[r]'(by have := HLP.out; omega), List.getElem?_eq_getElem _⟩
        have hfu := furtheri_any HN.out k b r hb st' (some ⟨gb, 0, none⟩) m c hm9 path Vp bp op HT.out x hx (by have := HP.out.2 x (List.mem_of_getElem? hx); omega) HP.out.1 _ hB2 hown2
        rw [← ho] at hfu
        have HFU := Lib.hid hfu
        clear hfu
        have HE : Hid (∀ (a' : Option Addr) (n' c' : Nat) (W' : World), W'.ownsRow w.heap.size 89 2 (.slice a' n' c') n' (pcells N (((st' ++ onR (domN N) path (k, r)) ++ onP (domN N) (k, r) x) ++ onL (domN N) (k, r) x)) → Below w.heap.size w W' →
            (∃ st, BestAti w N E path ANS (.slice a' n' c') n' W' st) ∧ costL path.length (rowOf (.slice a' n' c') W') < costL path.length (rowOf (.slice (some ⟨gb, 0, none⟩) n c) wr)) := Lib.hid fun a' n' c' W' h1 h2 => by
          have h3 := stCost_on (dom := domN N) st' (k, r) x (by have := HLP.out; show r < path.length; omega)
          refine ⟨⟨_, h1, h2, HOP.out.on (k, r) x (by have := HLP.out; show r < path.length; omega), by omega, ?_⟩, ?_⟩
          · rw [srch_on _ _ x hx]; exact hsrch
          · rw [hvar, rowOf_owns h1, costL_is]; omega
        clear hS HR hn hm hm' hidx hcell hown hpc hpl hsrch hcost hvar hmm ho hbox hB2 hown2 hb hread hx hm9 hbase hgl h0
        go_wp2_with fail
        refine HFU.out.mono ?_
        rintro e W' ⟨a', n', c', rfl, h1, h2⟩
        obtain ⟨h3, h4⟩ := HE.out a' n' c' W' h1 h2
        have H3 := Lib.hid h3
        have H4 := Lib.hid h4
        clear h1 h2 h3 h4
        go_wp2
        exact ⟨⟨a', n', c', rfl, H3⟩, H4.out⟩
      case neg =>
        have g1 : decide ((r : Int) < (LP : Int)) = false := decide_eq_false (by omega)
        have hend : plcF (domN N) E path (k, r) = E k := plc_end (k, r) (by have := HLP.out; show path.length ≤ r; omega)
        rw [hend] at hsrch
        have hnd := (HN.out.below hB2).node k b hb
        rw [← ho] at hnd
        have f3 := hnd.fin.1
        cases hE : E k with
        | some e =>
          rw [hE] at hsrch f3
          have HA : Hid (ANS = some e) := Lib.hid hsrch.symm
          unfold ptrO at f3
          clear hS HR hn hm hm' hidx hcell hown hpc hpl hsrch hcost hvar hmm ho hbox hB2 hown2 hb hread hm9 hbase hgl h0 hnd hend hE
          go_wp2
          go_ret
          exact ⟨by rw [HA.out]; rfl, HB2.out⟩
        | none =>
          rw [hE, Option.none_or] at hsrch
          rw [hE] at f3
          have hadd : stCost path.length (st' ++ [(k, r)]) = stCost path.length st' + costN (path.length - r) := by rw [stCost_app, stCost_one]
          have hpos := cost_pos (path.length - r)
          have H3 : Hid (∃ st, BestAti w N E path ANS (.slice (some ⟨gb, 0, none⟩) m c) m (wr.alloc (.cells #[.pointer (some ⟨b, o, none⟩), .int .i64 (r : Int)] 89)) st) := Lib.hid ⟨st', hown2, hB2, HOP.out, by omega, hsrch⟩
          have H4 : Hid (costL path.length (rowOf (.slice (some ⟨gb, 0, none⟩) m c) (wr.alloc (.cells #[.pointer (some ⟨b, o, none⟩), .int .i64 (r : Int)] 89))) < costL path.length (rowOf (.slice (some ⟨gb, 0, none⟩) n c) wr)) := Lib.hid (by
            rw [hvar, rowOf_owns hown2, costL_is]; omega)
          unfold ptrO at f3
          clear hS HR hn hm hm' hidx hcell hown hpc hpl hsrch hcost hvar hmm ho hbox hB2 hown2 hb hread hm9 hbase hgl h0 hnd hend hE hadd hpos
          go_wp2
          exact ⟨⟨_, m, c, rfl, H3⟩, H4.out⟩
end Go.Proofs.YtgoaljnfegaldaaDoor
