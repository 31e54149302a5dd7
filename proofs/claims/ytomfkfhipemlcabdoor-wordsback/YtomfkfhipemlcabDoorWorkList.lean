/- sameStmts of the program: alike just if all is, by a list of pairs that are still to be held against each other. -/
import Derived.Test.YtomfkfhipemlcabDoorPairs
import Derived.Test.YtomfkfhipemlcabDoorKept
namespace Go.Proofs.YtomfkfhipemlcabDoor
open Go.RowKit Go.Maps

/-- What is in two statements, held against each other. -/
def inI (D : Nat) (T U : SL) (i : Nat) : Bool := eqS D (T.sub i false) (U.sub i false) && eqS D (T.sub i true) (U.sub i true)

theorem eqS_in {d : Nat} {T U : SL} (hl : T.len = U.len) (hT : proper (d + 1) T) (hU : proper (d + 1) U) (hh : ∀ i, i < T.len → eqH (T.nd i) (U.nd i) = true) : eqS (d + 1) T U = allTo T.len (inI (d + 1) T U) := by
  rw [eqS_all hl]
  refine allTo_congr fun i hi => ?_
  unfold eqI inI
  rw [hh i hi, eqS_succ (hT i hi).1 (hU i (by omega)).1, eqS_succ (hT i hi).2 (hU i (by omega)).2, Bool.true_and]

theorem eqS_no {d : Nat} {T U : SL} (hl : T.len = U.len) {i : Nat} (hi : i < T.len) (h : eqH (T.nd i) (U.nd i) = false) : eqS (d + 1) T U = false := by
  rw [eqS_all hl]
  exact allTo_no hi (by unfold eqI; rw [h, Bool.false_and])

theorem wt_eq {d : Nat} {T : SL} (hT : proper (d + 1) T) {i : Nat} (hi : i < T.len) : wt d T i = 1 + size (d + 1) (T.sub i false) + size (d + 1) (T.sub i true) := by
  unfold wt
  rw [size_succ' (hT i hi).1, size_succ' (hT i hi).2]

theorem own_more {w : World} {base : Nat} {v : Value} {L : List Pr} {q1 q2 : Pr} (h : w.ownsRow base 58 2 v (L.length + 2) (flatP L ++ [q1.1.1, q1.1.2, q2.1.1, q2.1.2])) : w.ownsRow base 58 2 v (L ++ [q1, q2]).length (flatP (L ++ [q1, q2])) := by
  have hl : (L ++ [q1, q2]).length = L.length + 2 := by simp
  rw [hl, flatP_append]
  exact h

theorem cell_heap {w : World} {B : Nat} {cs : Array Value} {t : TypeId} {z : Nat × Nat} (h : w.heap[B]? = some (.cells cs t z)) (i : Nat) {c : Value} (hc : cs[i]? = some c) : w.cell? ⟨B, i, none⟩ = some c := by
  simp [World.cell?, h, hc]

/-- The box of a pair stays, and the list does not come to lie in it. -/
theorem box_stays {w w2 : World} {B base n : Nat} {x y v v' : Value} {xs : List Value} (hbox : w.heap[B]? = some (.cells #[x, y] 58 (0, 0))) (hne : ¬ v.ownBlock = some B) (hg : w.grownBy w2 v.ownBlock) (hown : w2.ownsRow base 58 2 v' (n + 2) xs) :
    w2.heap[B]? = some (.cells #[x, y] 58 (0, 0)) ∧ Hid (¬ v'.ownBlock = some B) := by
  have hlt : B < w.heap.size := by
    by_cases h : B < w.heap.size
    · exact h
    · rw [Array.getElem?_eq_none (Nat.le_of_not_lt h)] at hbox; cases hbox
  have h2 := (hg.block B hlt (fun e => hne e.symm)).trans hbox
  refine ⟨h2, fun e => ?_⟩
  rcases hown.2 with ⟨_, h0⟩ | ⟨g, cap, cur, rfl, _, hh, hn, _, hsz, _⟩
  · omega
  · have : g = B := by simpa [Value.ownBlock] using e
    subst this
    rw [h2] at hh
    have hc := congrArg (fun o : Option Obj => match o with | some (.cells cs _ _) => cs.size | _ => 0) hh
    simp at hc
    omega

set_option maxHeartbeats 8000000 in
theorem sameStmts (N d : Nat) (v1 v2 : Value) (T U : SL) (w : World) (hN : N ≤ w.heap.size) (h1 : StmtsAt N w (d + 1) v1 T) (h2 : StmtsAt N w (d + 1) v2 U) (hsz : size (d + 1) T ≤ 4000000) :
    Calls Tryd.prog 12 #[v1, v2] w fun e w' => e = .returned (.bool (eqS (d + 1) T U)) ∧ Below w.heap.size w w' := by
  have hpair : PairAt N w (d + 1) ((v1, v2), (T, U)) := ⟨h1, h2⟩
  obtain ⟨a1, c1, rfl, _⟩ := h1.shape
  obtain ⟨a2, c2, rfl, _⟩ := h2.shape
  have HR0 : Hid (eqS (d + 1) T U = eqAll (d + 1) [((.slice a1 T.len c1, .slice a2 U.len c2), (T, U))]) := by
    show eqS (d + 1) T U = (eqS (d + 1) T U && true)
    rw [Bool.and_true]
  have HW0 : Hid (weight (d + 1) [((.slice a1 T.len c1, .slice a2 U.len c2), (T, U))] ≤ 9000000) := by
    show 1 + 2 * size (d + 1) T + 0 ≤ 9000000
    omega
  have HP0 : Hid (∀ p ∈ [(((.slice a1 T.len c1, .slice a2 U.len c2), (T, U)) : Pr)], PairAt N w (d + 1) p) := fun p hp => by
    rw [List.mem_singleton] at hp
    rw [hp]; exact hpair
  generalize eqS (d + 1) T U = RES at *
  clear hpair h1 h2 hsz
  go_enter Tryd.func12, Tryd.ntmps12
  go_wp2_with fail
  go_loopg [5] (weight (d + 1) [((.slice a1 T.len c1, .slice a2 U.len c2), (T, U))]) (fun k q wr => ∃ L : List Pr, weight (d + 1) L = k ∧ k ≤ 9000000 ∧ wr.ownsRow w.heap.size 58 2 q L.length (flatP L) ∧ Below w.heap.size w wr ∧ Hid (∀ p ∈ L, PairAt N w (d + 1) p) ∧ Hid (RES = eqAll (d + 1) L))
  case atStart => exact ⟨_, rfl, HW0.out, World.ownsRow_lit w #[.slice a1 T.len c1, .slice a2 U.len c2] 1 (Nat.le_refl _) (by decide) rfl, below_alloc _ _, HP0, HR0⟩
  case round =>
    clear HP0 HR0 HW0
    obtain ⟨L, rfl, hk, hown, hb, hP, hR⟩ := hrel
    rcases pr_nil_or_snoc L with rfl | ⟨L, ⟨⟨v1, v2⟩, ⟨S, V⟩⟩, rfl⟩
    · obtain ⟨a3, c3, rfl⟩ := own_shape hown
      go_wp2_with fail
      go_ret
      exact ⟨ret_bool hR.out.symm, hb⟩
    · obtain ⟨g, cp, rfl, hg1, hg2, hgc, x1, x2, hpop⟩ := own_last_pair hown
      have hlw := len_weight (d + 1) (L ++ [((v1, v2), (S, V))])
      have hL9 : L.length ≤ 9000000 := by
        rw [List.length_append] at hlw
        omega
      have hq : StmtsAt N w (d + 1) v1 S ∧ StmtsAt N w (d + 1) v2 V := hP.out ((v1, v2), (S, V)) (by simp)
      obtain ⟨s1, s2⟩ := hq
      dsimp only at x1 x2
      have hpT := s1.proper
      have hpU := s2.proper
      obtain ⟨b1, d1, rfl, _⟩ := s1.shape
      obtain ⟨b2, d2, rfl, _⟩ := s2.shape
      have hsl := slice_to Tryd.underlying59 size96 ⟨g, 0, none⟩ (L.length + 1) cp L.length L.length rfl (by omega)
      have HP : Hid (∀ p ∈ L, PairAt N w (d + 1) p) := fun p hp => hP.out p (by simp [hp])
      have HR : Hid (RES = (eqAll (d + 1) L && eqS (d + 1) S V)) := by
        show RES = _
        rw [hR.out, eqAll_append]
        show (_ && (_ && true)) = _
        rw [Bool.and_true]
      have HW : Hid (weight (d + 1) (L ++ [((.slice b1 S.len d1, .slice b2 V.len d2), (S, V))]) = weight (d + 1) L + (1 + 2 * size (d + 1) S)) := by
        show weight (d + 1) _ = _
        rw [weight_append]; rfl
      clear hP hR hown hlw
      by_cases hl : S.len = V.len
      rotate_left
      · have ht : ((S.len : Int) != (V.len : Int)) = true := by simp; omega
        have HE : Hid (RES = false) := HR.out.trans (by rw [eqS_len hl, Bool.and_false])
        clear hl
        go_wp2_with fail
        go_ret
        exact ⟨ret_bool HE.out.symm, below_step hb (below_alloc _ _)⟩
      have ht : ((S.len : Int) != (V.len : Int)) = false := by simp [hl]
      have HL : Hid (S.len = V.len) := hl
      clear hl
      go_wp2_with fail
      have hb0 : Below w.heap.size w (wr.alloc (.cells #[.slice b1 S.len d1, .slice b2 V.len d2] 58)) := below_step hb (below_alloc _ _)
      have hown0 := hpop.alloc (.cells #[.slice b1 S.len d1, .slice b2 V.len d2] 58)
      have hbox : (wr.alloc (.cells #[.slice b1 S.len d1, .slice b2 V.len d2] 58)).heap[wr.heap.size]? = some (.cells #[.slice b1 S.len d1, .slice b2 V.len d2] 58 (0, 0)) := heap_alloc_new _ _
      have hne : Hid (¬ (Value.slice (some ⟨g, 0, none⟩) L.length cp).ownBlock = some wr.heap.size) := fun e => by cases e; exact absurd hg2 (Nat.lt_irrefl _)
      have HN9 : Hid (weight (d + 1) L + (1 + 2 * size (d + 1) S) ≤ 9000000) := by rw [← HW.out]; exact hk
      generalize wr.alloc (.cells #[.slice b1 S.len d1, .slice b2 V.len d2] 58) = w0 at *
      generalize wr.heap.size = B at *
      clear x1 x2 hpop hsl hb hg2
      go_loopg [5, 38] S.len (fun k q i wi => ∃ (j : Nat) (M : List Pr), j ≤ S.len ∧ S.len - j = k ∧ i = .int .i64 j ∧ wi.ownsRow w.heap.size 58 2 q M.length (flatP M) ∧ Below w.heap.size w wi ∧ wi.heap[B]? = some (.cells #[.slice b1 S.len d1, .slice b2 V.len d2] 58 (0, 0)) ∧ Hid (¬ q.ownBlock = some B) ∧
        Hid (∀ p ∈ M, PairAt N w (d + 1) p) ∧ Hid (weight (d + 1) M = weight (d + 1) L + 2 * sumTo j (wt d S)) ∧ Hid (eqAll (d + 1) M = (eqAll (d + 1) L && allTo j (inI (d + 1) S V))) ∧ Hid (∀ x, x < j → eqH (S.nd x) (V.nd x) = true))
      case atStart => exact ⟨0, L, Nat.zero_le _, rfl, rfl, hown0, hb0, hbox, hne, HP, rfl, by rw [show allTo 0 (inI (d + 1) S V) = true from rfl, Bool.and_true]; exact rfl, fun x hx => absurd hx (Nat.not_lt_zero _)⟩
      case round =>
        clear hown0 hb0 hbox hne HP
        obtain ⟨j, M, hj, rfl, rfl, hown, hb, hbox, hne, hP, hWt, hEq, hHd⟩ := hrel
        have hlw := len_weight (d + 1) M
        have hmono := sumTo_mono (f := wt d S) hj
        have hM9 : M.length ≤ 9000000 := by
          have := hWt.out
          have := HN9.out
          have e : size (d + 1) S = sumTo S.len (wt d S) := rfl
          omega
        obtain ⟨aq, cq, rfl⟩ := own_shape hown
        by_cases hlt : j < S.len
        · have hltV : j < V.len := by have := HL.out; omega
          obtain ⟨a', cap', e', _, h0 | ⟨p1, o1, rfl, r1, g1⟩⟩ := s1
          · omega
          obtain ⟨a2', cap2', e2', _, h0 | ⟨p2, o2, rfl, r2, g2⟩⟩ := s2
          · omega
          cases e'
          cases e2'
          obtain ⟨e1, f1, x1, y1, q0, q1, q2, q3, q4, q5, t1, t2, sA, sB⟩ := g1 j hlt
          obtain ⟨e2, f2, x2, y2, z0, z1, z2, z3, z4, z5, t3, t4, sC, sD⟩ := g2 j hltV
          have p1' : p1 < w.heap.size := by omega
          have p2' : p2 < w.heap.size := by omega
          rw [← hb.cell p1'] at q0 q1 q2 q3 q4 q5
          rw [← hb.cell p2'] at z0 z1 z2 z3 z4 z5
          have p2w : p2 < wr.heap.size := Nat.lt_of_lt_of_le p2' hb.size
          have hNr : N ≤ wr.heap.size := Nat.le_trans hN hb.size
          have hB1 : wr.cell? ⟨B, 1, none⟩ = some (.slice (some ⟨p2, o2, none⟩) V.len d2) := cell_heap hbox 1 rfl
          have hBlt : B < wr.heap.size := cell_lt hB1
          have HA : Hid (PairAt N w (d + 1) ((x1, x2), (S.sub j false, V.sub j false))) := ⟨sA.deeper, sC.deeper⟩
          have HBp : Hid (PairAt N w (d + 1) ((y1, y2), (S.sub j true, V.sub j true))) := ⟨sB.deeper, sD.deeper⟩
          obtain ⟨ae1, ce1, rfl, _⟩ := t1.shape
          obtain ⟨af1, cf1, rfl, _⟩ := t2.shape
          obtain ⟨aa1, ca1, rfl, _⟩ := sA.shape
          obtain ⟨ab1, cb1, rfl, _⟩ := sB.shape
          obtain ⟨ae2, ce2, rfl, _⟩ := t3.shape
          obtain ⟨af2, cf2, rfl, _⟩ := t4.shape
          obtain ⟨aa2, ca2, rfl, _⟩ := sC.shape
          obtain ⟨ab2, cb2, rfl, _⟩ := sD.shape
          have hbN := hb.mono hN
          have HC : Hid (∀ wk, Below wr.heap.size wr wk → Calls Tryd.prog 22 #[.agg #[.int .i64 (S.nd j).kind, .int .i64 (S.nd j).num, .slice ae1 (S.nd j).ne ce1, .slice af1 (S.nd j).nf cf1, .slice aa1 (S.sub j false).len ca1, .slice ab1 (S.sub j true).len cb1],
              .agg #[.int .i64 (V.nd j).kind, .int .i64 (V.nd j).num, .slice ae2 (V.nd j).ne ce2, .slice af2 (V.nd j).nf cf2, .slice aa2 (V.sub j false).len ca2, .slice ab2 (V.sub j true).len cb2]] wk fun e w' => e = .returned (.bool (eqH (S.nd j) (V.nd j))) ∧ Below wk.heap.size wk w') := fun wk hk =>
            sameHead N (S.nd j) (V.nd j) _ _ _ _ _ _ _ _ _ _ _ _ _ _ _ _ wk (Nat.le_trans hNr hk.size) ((t1.below hbN).below (hk.mono hNr)) ((t2.below hbN).below (hk.mono hNr)) ((t3.below hbN).below (hk.mono hNr)) ((t4.below hbN).below (hk.mono hNr))
          have HWb : Hid (∀ o1 o2 : Obj, Below wr.heap.size wr ((wr.alloc o1).alloc o2)) := fun o1 o2 => below_step (below_alloc _ _) (below_alloc _ _)
          have HWt2 : Hid (sumTo (j + 1) (wt d S) = sumTo j (wt d S) + (1 + size (d + 1) (S.sub j false) + size (d + 1) (S.sub j true))) := by
            show sumTo j (wt d S) + wt d S j = _
            rw [wt_eq hpT hlt]
          clear g1 g2 t1 t2 t3 t4 sA sB sC sD hmono hlw
          by_cases he : eqH (S.nd j) (V.nd j) = true
          · rw [he] at HC
            have HH : Hid (∀ x, x < j + 1 → eqH (S.nd x) (V.nd x) = true) := upTo hHd.out he
            clear he
            go_wp2_with (first
              | (at_builtin; refine append_pairs _ rfl _ _ rfl w.heap.size _ M.length (flatP M) rfl (own_below hown (below_step (HWb.out _ _) hb1)) _ _ _ _ _ _ _ _ _ _ _ _ _ _ rfl rfl (by omega) (Nat.le_trans hb.size (Nat.le_trans (HWb.out _ _).size hb1.size)) ?_; intro ad cp2 w2 hown2 hgrow2)
              | (go_at_call 22; refine (HC.out _ (HWb.out _ _)).mono ?_; rintro e w1 ⟨rfl, hb1⟩; obtain ⟨m4, n4⟩ := two_box hb1 4 rfl rfl; obtain ⟨m5, n5⟩ := two_box hb1 5 rfl rfl))
            go_roundg (S.len - (j + 1))
            case rel =>
              have b1' := below_step (HWb.out _ _) hb1
              have hbox1 := (b1'.block B hBlt).trans hbox
              have hbox2 := (Below.heap_alloc w1 (.cells #[.slice aa1 (S.sub j false).len ca1, .slice aa2 (V.sub j false).len ca2, .slice ab1 (S.sub j true).len cb1, .slice ab2 (V.sub j true).len cb2] 58) B (Nat.lt_of_lt_of_le hBlt b1'.size)).trans hbox1
              obtain ⟨hbox3, hne3⟩ := box_stays hbox2 hne.out hgrow2 hown2
              have b2' := (below_step hb b1').alloc (Nat.le_trans hb.size b1'.size) (.cells #[.slice aa1 (S.sub j false).len ca1, .slice aa2 (V.sub j false).len ca2, .slice ab1 (S.sub j true).len cb1, .slice ab2 (V.sub j true).len cb2] 58)
              refine ⟨j + 1, M ++ [((.slice aa1 (S.sub j false).len ca1, .slice aa2 (V.sub j false).len ca2), (S.sub j false, V.sub j false)), ((.slice ab1 (S.sub j true).len cb1, .slice ab2 (V.sub j true).len cb2), (S.sub j true, V.sub j true))], by omega, rfl, by go_num, ?_, b2'.grown hgrow2 b2'.size (fun b hb' => (hown.lt b hb').1), hbox3, hne3, ?_, ?_, ?_, HH.out⟩
              · exact own_more hown2
              · intro p hp
                rw [List.mem_append] at hp
                rcases hp with hp | hp
                · exact hP.out p hp
                · simp only [List.mem_cons, List.not_mem_nil, or_false] at hp
                  rcases hp with rfl | rfl
                  · exact HA.out
                  · exact HBp.out
              · rw [weight_append, hWt.out, HWt2.out]
                show _ + (1 + 2 * size (d + 1) (S.sub j false) + (1 + 2 * size (d + 1) (S.sub j true) + 0)) = _
                omega
              · rw [eqAll_append, hEq.out]
                show ((_ && _) && (eqS (d + 1) (S.sub j false) (V.sub j false) && (eqS (d + 1) (S.sub j true) (V.sub j true) && true))) = (_ && (allTo j (inI (d + 1) S V) && inI (d + 1) S V j))
                unfold inI
                simp only [Bool.and_assoc, Bool.and_true]
            case measure => omega
          · have he' : eqH (S.nd j) (V.nd j) = false := by simpa using he
            rw [he'] at HC
            have HE : Hid (RES = false) := HR.out.trans (by rw [eqS_no HL.out hlt he', Bool.and_false])
            clear he he'
            go_wp2_with (go_at_call 22; refine (HC.out _ (HWb.out _ _)).mono ?_; rintro e w1 ⟨rfl, hb1⟩)
            go_ret
            exact ⟨ret_bool HE.out.symm, below_step hb (below_step (HWb.out _ _) hb1)⟩
        · obtain rfl : j = S.len := by omega
          have HRes : Hid (RES = eqAll (d + 1) M) := by
            show RES = _
            rw [HR.out, hEq.out, eqS_in HL.out hpT hpU hHd.out]
          have HWm : Hid (weight (d + 1) M < weight (d + 1) (L ++ [((.slice b1 S.len d1, .slice b2 V.len d2), (S, V))])) := by
            show weight (d + 1) M < _
            rw [hWt.out, HW.out]
            have e : size (d + 1) S = sumTo S.len (wt d S) := rfl
            omega
          clear hmono hlw
          go_wp2_with fail
          go_roundg (weight (d + 1) M)
          case rel => exact ⟨M, rfl, by have := HWm.out; omega, hown, hb, hP, HRes⟩
          case measure => exact HWm.out

end Go.Proofs.YtomfkfhipemlcabDoor
