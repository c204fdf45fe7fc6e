/- The landed twin of tries of ints walked. -/
import Derived.Test.YtgoaljnfegaldaaDoorTw2i
import Derived.Test.YtgoaljnfegaldaaDoorTv1
namespace Go.Proofs.YtgoaljnfegaldaaDoor
open Go.RowKit
attribute [local go_sem] store_one S_match S_store eguard_BN nguard_BN B_eqlN B_neqN

theorem nodes_prefixi {w : World} {g : Nat} {R : Nat → Option Role} {N M E : List Key → Option Nat} {C : Nat} {mx : Int} {av : Value} (h : Nodes w g R N M E C mx av) : ∀ (r k : List Key), N k = none → N (k ++ r) = none
  | [], k, hk => by rw [List.append_nil]; exact hk
  | c :: r, k, hk => by
    have : N (k ++ [c]) = none := by
      cases hx : N (k ++ [c]) with
      | none => rfl
      | some y => exact absurd hk (h.pre k c (by rw [hx]; exact Option.some_ne_none _))
    have h2 := nodes_prefixi h r (k ++ [c]) this
    rwa [List.append_assoc] at h2
set_option maxRecDepth 100000 in
set_option maxHeartbeats 1000000 in
theorem twini_any {w : World} {g : Nat} {R : Nat → Option Role} {N M E : List Key → Option Nat} {C : Nat} {mx : Int} {av : Value} (h : Nodes w g R N M E C mx av) (p : Txt) (l : List Txt) (hp : segsF p = some l) (hl : p.length ≤ 200) (hm : MaxAt w) :
    Calls Tryd.prog 27 #[.pointer (some ⟨g, 0, none⟩), S p] w fun e w' => e = .returned (ptrO (E (keysF l))) ∧ Below w.heap.size w w' := by
  obtain ⟨h0, hcut, hok⟩ := segsF_head hp
  have hne : p ≠ [] := by rintro rfl; cases h0
  have hTI := tidy_ok l [] hok
  have HSG := Lib.hid (segments_any p hne (by omega) w hm)
  have heach := cutS_each p
  rw [← hcut] at HSG heach
  have hlen : l.length ≤ 201 := by rw [hcut]; have := cutS_len p; omega
  obtain ⟨L, hL⟩ : ∃ L, L = l.length := ⟨_, rfl⟩
  rw [← hL] at hlen
  have HL := Lib.hid hL
  have HTI := Lib.hid hTI
  have H := Lib.hid h
  have HE := Lib.hid (fun x hx => Nat.le_trans (heach x hx) hl)
  clear h0 hcut hok hne hTI hp hl hm hL h heach
  go_enter Tryd.func27, Tryd.ntmps27
  go_wp2_with fail
  refine HSG.out.mono ?_
  rintro e W ⟨V, b, rfl, hT, hB, -⟩
  have hlV := fun w' => hT.len 3 w'
  rw [← HL.out] at hlV
  have HT := Lib.hid hT
  have HB := Lib.hid hB
  have HN := Lib.hid (H.out.below hB)
  clear hT hB HSG
  go_wp2
  go_loopw [5, 14] (fun nv iv wr => ∃ (i b o : Nat), i ≤ L ∧ nv = .pointer (some ⟨b, o, none⟩) ∧ iv = .int .i64 (i : Int) ∧ wr = W ∧ Hid (N (keysF (l.take i)) = some b ∧ o = offK (keysF (l.take i)))) (fun _ iv _ => L - (intOf iv).toNat)
  case atStart => exact ⟨0, g, 1, Nat.zero_le _, rfl, rfl, rfl, Lib.hid ⟨by rw [List.take_zero]; exact HN.out.root, rfl⟩⟩
  case round =>
    obtain ⟨i, b2, o, hi, rfl, rfl, hwr, HR⟩ := hrel
    rw [hwr]
    clear hwr
    by_cases hlt : i < L
    case neg =>
      obtain rfl : i = L := by omega
      have g1 : decide ((i : Int) < (i : Int)) = false := decide_eq_false (by omega)
      have hn := HN.out.node _ b2 HR.out.1
      rw [← HR.out.2, HL.out, List.take_length] at hn
      have f1 := hn.fin.1
      clear hn
      go_wp2
      go_ret
      exact ⟨rfl, HB.out⟩
    case pos =>
      have g1 : decide ((i : Int) < (L : Int)) = true := decide_eq_true (by omega)
      have hw1 : IntKind.i64.wrap ((i : Int) + 1) = (i : Int) + 1 := by rw [IntKind.wrap_i64]; omega
      obtain ⟨x, hx⟩ : ∃ x, l[i]? = some x := ⟨l[i]'(by have := HL.out; omega), List.getElem?_eq_getElem _⟩
      have hix := fun w' => HT.out.index i (by have := HL.out; omega) w'
      have hcell : W.cell? ⟨b, 0 + i, none⟩ = some (S x) := HT.out.cell i x hx
      obtain ⟨q, hq⟩ : ∃ q, q = 0 + i := ⟨_, rfl⟩
      rw [← hq] at hix hcell
      have hxn := (tidy_at HTI.out hx).1
      have hn := HN.out.node _ b2 HR.out.1
      rw [← HR.out.2] at hn
      have HBL := belowi_any hn x hxn (by have := HE.out x (List.mem_of_getElem? hx); omega)
      have hkey : keysF (l.take i) ++ [keyS x] = keysF (l.take (i + 1)) := by
        rw [(drop_at hx).2]; unfold keysF; rw [List.map_append]; rfl
      rw [hkey] at HBL
      have HBL := Lib.hid HBL
      clear hn hx hxn hq hkey
      cases hv : N (keysF (l.take (i + 1))) with
      | none =>
        rw [hv] at HBL
        have HP : Hid (E (keysF l) = none) := Lib.hid (by
          have h1 : N (keysF l) = none := by
            have := nodes_prefixi HN.out (keysF (l.drop (i + 1))) _ hv
            unfold keysF at this ⊢
            rwa [← List.map_append, List.take_append_drop] at this
          cases hE : E (keysF l) with
          | none => rfl
          | some y => exact absurd h1 (HN.out.eR _ y hE).2)
        clear hv
        go_wp2_with fail
        refine HBL.out.mono ?_
        rintro e w' ⟨rfl, hw⟩
        rw [hw]
        clear hw w'
        unfold ptrO
        go_wp2
        go_ret
        exact ⟨by rw [HP.out]; rfl, HB.out⟩
      | some b3 =>
        rw [hv] at HBL
        have HX : Hid (N (keysF (l.take (i + 1))) = some b3 ∧ 0 = offK (keysF (l.take (i + 1)))) := Lib.hid ⟨hv, by
          cases hk : keysF (l.take (i + 1)) with
          | nil =>
            have h1 := congrArg List.length hk
            unfold keysF at h1
            rw [List.length_map, List.length_take] at h1
            have h2 : min (i + 1) l.length = 0 := h1
            have := HL.out
            omega
          | cons a r => rfl⟩
        clear hv
        go_wp2_with fail
        refine HBL.out.mono ?_
        rintro e w' ⟨rfl, hw⟩
        rw [hw]
        clear hw w'
        unfold ptrO
        go_wp2
        exact ⟨⟨i + 1, b3, 0, by omega, by trivial, by go_num, by trivial, HX⟩, by simp [intOf]; omega⟩
end Go.Proofs.YtgoaljnfegaldaaDoor
