/-
  The law's field of proposers and acceptors as plain states: each step keeps the protocol's invariant. No condition on any program.
-/
import Derived.Test.YtfkmodmgihadkaaGac
import Derived.Test.YtfkmodmgihadkaaGp7
import Derived.Test.YtfkmodmgihadkaaGzp
namespace Go.Proofs.Ytfkmodmgihadkaa
set_option linter.unusedSimpArgs false
set_option linter.unusedVariables false
open Go.RowKit Go.Maps Go.Sort
open V (P2)
open Z (up up_same up_ne many many_mono many_meet Xa Xp Xg Xinv Chosen upI upI_same upI_ne)

def prp (i : Nat) : P2 := ⟨i, 1⟩
theorem prp_inj {i j : Nat} (h : prp i = prp j) : i = j := by
  unfold prp at h
  injection h with h
  first | exact h | omega
def memP (n : Nat) : List P2 := (List.range n).map prp
def Pd.z (d : Pd) : Xp VD := ⟨d.bal, d.ph.toNat, fun i => decide (prp i ∈ d.C), d.hb, d.hd, d.hh, d.vd⟩
def Ad.z (d : Ad) : Xa VD := ⟨d.pr, d.bal, d.vd, d.has⟩
theorem up_z (A : Nat → Ad) (x : Nat) (a : Ad) : (fun i => (up A x a i).z) = up (fun i => (A i).z) x a.z := by
  funext i
  by_cases h : i = x
  · subst h; simp [up_same]
  · simp [up_ne _ _ h]
theorem up_zo (Q : Nat → Option Pd) (x : Nat) (d : Pd) : (fun i => (up Q x (some d) i).map Pd.z) = up (fun i => (Q i).map Pd.z) x (some d.z) := by
  funext i
  by_cases h : i = x
  · subst h; simp [up_same]
  · simp [up_ne _ _ h]
theorem up_id {α : Type} (Q : Nat → α) (x : Nat) : up Q x (Q x) = Q := by
  funext i
  by_cases h : i = x
  · subst h; simp [up_same]
  · simp [up_ne _ _ h]
theorem mem_memP {n x : Nat} : prp x ∈ memP n ↔ x < n := by
  unfold memP
  rw [List.mem_map]
  constructor
  · rintro ⟨i, hi, e⟩
    have := prp_inj e
    subst this
    exact List.mem_range.1 hi
  · intro h
    exact ⟨x, List.mem_range.2 h, rfl⟩
theorem count_C {n : Nat} {C : List P2} (hn : C.Nodup) (hs : ∀ p ∈ C, p ∈ memP n) : C.length ≤ many n fun i => decide (prp i ∈ C) := by
  have h := nodup_le C (((List.range n).filter fun i => decide (prp i ∈ C)).map prp) hn fun p hp => by
    have hm := hs p hp
    unfold memP at hm
    obtain ⟨i, hi, e⟩ := List.mem_map.1 hm
    refine List.mem_map.2 ⟨i, List.mem_filter.2 ⟨hi, ?_⟩, e⟩
    rw [e]
    exact decide_eq_true hp
  rw [List.length_map] at h
  exact h
/-- what every proposer of the field is. -/
structure Pg (n : Nat) (d : Pd) : Prop where
  M : d.M = memP n
  g : d.g = 0
  N : d.N = 1
  nd : d.C.Nodup
  sub : ∀ p ∈ d.C, p ∈ memP n
  pos : 0 < d.bal
  ph : d.ph = 0 ∨ d.ph = 1 ∨ d.ph = 2
structure PInv (n : Nat) (A : Nat → Ad) (Q : Nat → Option Pd) (v : Nat → VD) (w : Nat → Bool) (top : Nat) (g : Xg VD) : Prop where
  pos : 0 < n
  five : n ≤ 5
  z : Xinv n (fun i => (A i).z) (fun x => (Q x).map Pd.z) (top * 256 + 255 : Nat) g
  made : ∀ i, i < n → (A i).made = true
  q : ∀ x d, Q x = some d → Pg n d ∧ x < n
  hw : ∀ x, w x = true → ∃ d, Q x = some d ∧ d.ph ≠ 0
  hv : ∀ x d, Q x = some d → d.ph ≠ 0 → v x = d.vd ∧ w x = true
theorem enough_many {n : Nat} {d : Pd} (h : Pg n d) (he : d.enough = true) : n < 2 * many n fun i => decide (prp i ∈ d.C) := by
  have h1 := count_C h.nd h.sub
  unfold Pd.enough at he
  have h2 := of_decide_eq_true he
  rw [h.M] at h2
  have h3 : (memP n).length = n := by simp [memP]
  rw [h3] at h2
  omega
theorem Z.Xinv.rise {n : Nat} {A : Nat → Xa VD} {Q : Nat → Option (Xp VD)} {B B' : Int} {g : Xg VD} (h : Xinv n A Q B g) (hb : B ≤ B') : Xinv n A Q B' g :=
  ⟨h.vote, h.acc, h.prm, h.safe, h.asks, h.props, h.dec, h.uniq, (fun x d hx => Int.le_trans (h.top x d hx) hb), (fun b v hP => Int.le_trans (h.topP b v hP) hb)⟩
theorem zo {Q : Nat → Option Pd} {x : Nat} {d : Pd} (h : Q x = some d) : (fun i => (Q i).map Pd.z) x = some d.z := by simp [h]
theorem PInv.start (n : Nat) (h : 0 < n) (h5 : n ≤ 5) (v : Nat → VD) : PInv n (fun _ => A1) (fun _ => none) v (fun _ => false) 0 ⟨fun _ => none, fun _ _ => false⟩ :=
  ⟨h, h5, Z.Xinv.start n _ (fun i hi => ⟨rfl, Int.le_refl _⟩) _, (fun i hi => rfl), (fun x d h => by cases h), (fun x h => by cases h), (fun x d h => by cases h)⟩
theorem PInv.decided {n : Nat} {A : Nat → Ad} {Q : Nat → Option Pd} {v : Nat → VD} {w : Nat → Bool} {top : Nat} {g : Xg VD} (h : PInv n A Q v w top g) {x : Nat} {d : Pd} (hx : Q x = some d) (hd : d.ph = 2) : Chosen n g d.bal d.vd ∧ v x = d.vd :=
  ⟨Z.Xinv.decided h.z (x := x) (d := d.z) (zo hx) (by show d.ph.toNat = 2; rw [hd]; rfl), (h.hv x d hx (by omega)).1⟩
/-- one begins anew. -/
theorem PInv.begin {n : Nat} {A : Nat → Ad} {Q : Nat → Option Pd} {v : Nat → VD} {w : Nat → Bool} {top : Nat} {g : Xg VD} (h : PInv n A Q v w top g) (x : Nat) (hx : x < n) :
    PInv n A (up Q x (some (Pd.init 0 1 (memP n) (((top + 1) * 256 + x : Nat) : Int)))) v (up w x false) (top + 1) g := by
  have h5 := h.five
  refine ⟨h.pos, h.five, ?_, h.made, fun y d hy => ?_, fun y hy => ?_, fun y d hy hd => ?_⟩
  · rw [up_zo]
    exact (Z.Xinv.begin h.z x (Pd.init 0 1 (memP n) (((top + 1) * 256 + x : Nat) : Int)).z (by show ((top * 256 + 255 : Nat) : Int) < (((top + 1) * 256 + x : Nat) : Int); omega) rfl (fun i => by simp [Pd.z, Pd.init]) rfl).rise (by show (((top + 1) * 256 + x : Nat) : Int) ≤ (((top + 1) * 256 + 255 : Nat) : Int); omega)
  · by_cases e : y = x
    · subst e
      rw [up_same] at hy
      injection hy with hy
      subst hy
      exact ⟨⟨rfl, rfl, rfl, List.nodup_nil, (fun p hp => by cases hp), (by show (0 : Int) < (((top + 1) * 256 + y : Nat) : Int); omega), .inl rfl⟩, hx⟩
    · rw [up_ne _ _ e] at hy
      exact h.q y d hy
  · by_cases e : y = x
    · subst e
      rw [up_same] at hy
      cases hy
    · rw [up_ne _ _ e] at hy
      rw [up_ne _ _ e]
      exact h.hw y hy
  · by_cases e : y = x
    · subst e
      rw [up_same] at hy
      injection hy with hy
      subst hy
      exact absurd rfl hd
    · rw [up_ne _ _ e] at hy
      rw [up_ne _ _ e]
      exact h.hv y d hy hd
/-- an acceptor promises. -/
theorem PInv.prep {n : Nat} {A : Nat → Ad} {Q : Nat → Option Pd} {v : Nat → VD} {w : Nat → Bool} {top : Nat} {g : Xg VD} (h : PInv n A Q v w top g) (x : Nat) (b : Int) : PInv n (up A x ((A x).prep b)) Q v w top g := by
  by_cases hm : (A x).may b = true
  · rw [Ad.prep_yes hm]
    have hp : (A x).pr ≤ b := by
      simp only [Ad.may, Bool.and_eq_true, decide_eq_true_eq] at hm
      exact hm.2
    refine ⟨h.pos, h.five, ?_, fun i hi => ?_, h.q, h.hw, h.hv⟩
    · rw [up_z]
      exact Z.Xinv.prep h.z x b hp
    · by_cases e : i = x
      · subst e
        rw [up_same]
        exact h.made i hi
      · rw [up_ne _ _ e]
        exact h.made i hi
  · rw [Ad.prep_no (Bool.eq_false_iff.2 hm), up_id]
    exact h
theorem cnt_C {n : Nat} {d : Pd} (h : Pg n d) {x : Nat} (hx : x < n) (hc : d.cnt (prp x) = true) : (d.C ++ [prp x]).Nodup ∧ (∀ p ∈ d.C ++ [prp x], p ∈ memP n) ∧ (fun i => decide (prp i ∈ d.C ++ [prp x])) = up (fun i => decide (prp i ∈ d.C)) x true := by
  simp only [Pd.cnt, Bool.and_eq_true, decide_eq_true_eq] at hc
  refine ⟨?_, fun p hp => ?_, ?_⟩
  · rw [List.nodup_append]
    refine ⟨h.nd, List.nodup_cons.2 ⟨List.not_mem_nil, List.nodup_nil⟩, fun p hp q hq e => ?_⟩
    rw [List.mem_singleton] at hq
    rw [hq] at e
    rw [e] at hp
    exact hc.1 hp
  · rcases List.mem_append.1 hp with hp | hp
    · exact h.sub p hp
    · rw [List.mem_singleton] at hp
      rw [hp]
      exact mem_memP.2 hx
  · funext i
    by_cases e : i = x
    · subst e
      rw [up_same]
      simp
    · rw [up_ne _ _ e]
      have : prp i ≠ prp x := fun h => e (prp_inj h)
      simp [this]
/-- a promise reaches one who asks. -/
theorem PInv.promise {n : Nat} {A : Nat → Ad} {Q : Nat → Option Pd} {v : Nat → VD} {w : Nat → Bool} {top : Nat} {g : Xg VD} (h : PInv n A Q v w top g) (x y : Nat) (hx : x < n) (d : Pd) (hy : Q y = some d) (hpr : (A x).pr = d.bal) (TL : List EV) :
    PInv n A (up Q y (some (d.promise (prp x) TL (A x).bal (A x).vd (A x).has))) v w top g := by
  unfold Pd.promise
  by_cases hc : (decide (d.ph = 0) && d.cnt (prp x)) = true
  · rw [if_pos hc]
    simp only [Bool.and_eq_true, decide_eq_true_eq] at hc
    obtain ⟨h0, hcn⟩ := hc
    obtain ⟨hd, hyn⟩ := h.q y d hy
    obtain ⟨c1, c2, c3⟩ := cnt_C hd hx hcn
    obtain ⟨d', hd'⟩ : ∃ d', ((d.add (prp x)).longer TL).hold (A x).bal (A x).vd (A x).has = d' := ⟨_, rfl⟩
    have hl : ∀ e : Pd, (e.longer TL).C = e.C ∧ (e.longer TL).bal = e.bal ∧ (e.longer TL).ph = e.ph ∧ (e.longer TL).M = e.M ∧ (e.longer TL).g = e.g ∧ (e.longer TL).N = e.N ∧ (e.longer TL).hb = e.hb ∧ (e.longer TL).hd = e.hd ∧ (e.longer TL).hh = e.hh ∧ (e.longer TL).vd = e.vd := fun e => by
      unfold Pd.longer
      split <;> exact ⟨rfl, rfl, rfl, rfl, rfl, rfl, rfl, rfl, rfl, rfl⟩
    have hh : ∀ (e : Pd) acc yv hs, (e.hold acc yv hs).C = e.C ∧ (e.hold acc yv hs).bal = e.bal ∧ (e.hold acc yv hs).ph = e.ph ∧ (e.hold acc yv hs).M = e.M ∧ (e.hold acc yv hs).g = e.g ∧ (e.hold acc yv hs).N = e.N ∧ (e.hold acc yv hs).vd = e.vd ∧ ((e.hold acc yv hs).hb, (e.hold acc yv hs).hd, (e.hold acc yv hs).hh) = if (hs && (!e.hh || decide (e.hb < acc))) = true then (acc, yv, true) else (e.hb, e.hd, e.hh) := fun e acc yv hs => by
      unfold Pd.hold
      split <;> exact ⟨rfl, rfl, rfl, rfl, rfl, rfl, rfl, rfl⟩
    obtain ⟨l1, l2, l3, l4, l5, l6, l7, l8, l9, l10⟩ := hl (d.add (prp x))
    obtain ⟨k1, k2, k3, k4, k5, k6, k7, k8⟩ := hh ((d.add (prp x)).longer TL) (A x).bal (A x).vd (A x).has
    rw [hd'] at k1 k2 k3 k4 k5 k6 k7 k8 ⊢
    have e1 : d'.C = d.C ++ [prp x] := k1.trans l1
    have e2 : d'.bal = d.bal := k2.trans l2
    have e3 : d'.ph = d.ph := k3.trans l3
    refine ⟨h.pos, h.five, ?_, h.made, fun u e hu => ?_, fun u hu => ?_, fun u e hu he => ?_⟩
    · rw [up_zo]
      refine Z.Xinv.promise h.z y x d.z d'.z hx (zo hy) (by show d.ph.toNat = 0; rw [h0]; rfl) hpr e2 (by show d'.ph.toNat = 0; rw [e3, h0]; rfl) ?_ ?_
      · show (fun i => decide (prp i ∈ d'.C)) = _
        rw [e1]
        exact c3
      · rw [l7, l8, l9] at k8
        exact k8
    · by_cases e' : u = y
      · subst e'
        rw [up_same] at hu
        injection hu with hu
        subst hu
        exact ⟨⟨(k4.trans l4).trans hd.M, (k5.trans l5).trans hd.g, (k6.trans l6).trans hd.N, by rw [e1]; exact c1, by rw [e1]; exact c2, by rw [e2]; exact hd.pos, by rw [e3]; exact hd.ph⟩, hyn⟩
      · rw [up_ne _ _ e'] at hu
        exact h.q u e hu
    · obtain ⟨e, he, hp⟩ := h.hw u hu
      have e' : u ≠ y := fun e' => by
        subst e'
        rw [hy] at he
        injection he with he
        subst he
        exact hp h0
      exact ⟨e, by rw [up_ne _ _ e']; exact he, hp⟩
    · by_cases e' : u = y
      · subst e'
        rw [up_same] at hu
        injection hu with hu
        subst hu
        exact absurd (e3.trans h0) he
      · rw [up_ne _ _ e'] at hu
        exact h.hv u e hu he
  · rw [if_neg hc, ← hy, up_id]
    exact h
/-- one who asked a majority proposes. -/
theorem PInv.propose {n : Nat} {A : Nat → Ad} {Q : Nat → Option Pd} {v : Nat → VD} {w : Nat → Bool} {top : Nat} {g : Xg VD} (h : PInv n A Q v w top g) (x : Nat) (d : Pd) (hx : Q x = some d) (hr : d.ready = true) (wish : List P2) :
    ∃ g', PInv n A (up Q x (some (d.propose wish))) (up v x (d.choose wish)) (up w x true) top g' ∧ ∀ b y, Chosen n g b y → Chosen n g' b y := by
  simp only [Pd.ready, Bool.and_eq_true, decide_eq_true_eq] at hr
  obtain ⟨h0, he⟩ := hr
  obtain ⟨hd, hxn⟩ := h.q x d hx
  have hA := h.z.asks x d.z (zo hx) (by show d.ph.toNat = 0; rw [h0]; rfl)
  have hz := Z.Xinv.propose h.z x d.z (d.propose wish).z (zo hx) (by show d.ph.toNat = 0; rw [h0]; rfl) (enough_many hd he) rfl rfl (fun i => by simp [Pd.z, Pd.propose]) (fun hh => by
    show d.choose wish = d.hd
    have hh' : d.hh = true := hh
    unfold Pd.choose
    rw [if_pos hh'])
  refine ⟨{ g with P := upI g.P d.z.bal (some (d.propose wish).z.vd) }, ⟨h.pos, h.five, by rw [up_zo]; exact hz, h.made, fun u e hu => ?_, fun u hu => ?_, fun u e hu hp => ?_⟩, fun b y hc => hc.mono (fun c q hP => ?_) fun c j hT => hT⟩
  · by_cases e' : u = x
    · subst e'
      rw [up_same] at hu
      injection hu with hu
      subst hu
      exact ⟨⟨hd.M, hd.g, hd.N, List.nodup_nil, (fun p hp => by cases hp), hd.pos, .inr (.inl rfl)⟩, hxn⟩
    · rw [up_ne _ _ e'] at hu
      exact h.q u e hu
  · by_cases e' : u = x
    · subst e'
      exact ⟨_, up_same _ _ _, by show (1 : Int) ≠ 0; decide⟩
    · rw [up_ne _ _ e'] at hu
      rw [up_ne _ _ e']
      exact h.hw u hu
  · by_cases e' : u = x
    · subst e'
      rw [up_same] at hu
      injection hu with hu
      subst hu
      rw [up_same, up_same]
      exact ⟨rfl, rfl⟩
    · rw [up_ne _ _ e'] at hu
      rw [up_ne _ _ e', up_ne _ _ e']
      exact h.hv u e hu hp
  · have hne : c ≠ d.z.bal := fun e => by
      rw [e, hA.none] at hP
      cases hP
    exact (upI_ne g.P _ hne).trans hP
/-- one accepts what was proposed, and this is counted. -/
theorem PInv.accept {n : Nat} {A : Nat → Ad} {Q : Nat → Option Pd} {v : Nat → VD} {w : Nat → Bool} {top : Nat} {g : Xg VD} (h : PInv n A Q v w top g) (x y : Nat) (hx : x < n) (hw : w y = true) (d : Pd) (hy : Q y = some d) (hm : (A x).may d.bal = true) :
    ∃ g', PInv n (up A x ((A x).acc d.bal (v y))) (up Q y (some (d.accepted (prp x)))) v w top g' ∧ ∀ b u, Chosen n g b u → Chosen n g' b u := by
  obtain ⟨d0, hd0, hp0⟩ := h.hw y hw
  rw [hy] at hd0
  injection hd0 with hd0
  subst hd0
  obtain ⟨hv, -⟩ := h.hv y d hy hp0
  obtain ⟨hd, hyn⟩ := h.q y d hy
  have hnz : d.z.ph ≠ 0 := by
    show d.ph.toNat ≠ 0
    rcases hd.ph with e | e | e
    · exact absurd e hp0
    · rw [e]; decide
    · rw [e]; decide
  have hP := (h.z.props y d.z (zo hy) hnz).1
  have hpr : (A x).pr ≤ d.bal := by
    simp only [Ad.may, Bool.and_eq_true, decide_eq_true_eq] at hm
    exact hm.2
  rw [Ad.acc_yes hm, hv]
  have hz := Z.Xinv.accept h.z x hx d.bal d.vd hP hpr
  have hmade : ∀ i, i < n → (up A x { A x with pr := d.bal, bal := d.bal, vd := d.vd, has := true } i).made = true := fun i hi => by
    by_cases e : i = x
    · subst e
      rw [up_same]
      exact h.made i hi
    · rw [up_ne _ _ e]
      exact h.made i hi
  have hmono : ∀ b u, Chosen n g b u → Chosen n { g with T := upI g.T d.bal (up (g.T d.bal) x true) } b u := fun b u hc => hc.mono (fun c q hP => hP) fun c j hT => by
    show upI g.T d.bal (up (g.T d.bal) x true) c j = true
    by_cases e : c = d.bal
    · subst e
      rw [upI_same]
      by_cases ej : j = x
      · subst ej; exact up_same _ _ _
      · rw [up_ne _ _ ej]; exact hT
    · rw [upI_ne _ _ e]; exact hT
  have hTx : upI g.T d.bal (up (g.T d.bal) x true) d.bal x = true := by rw [upI_same, up_same]
  by_cases hc : (decide (d.ph = 1) && d.cnt (prp x)) = true
  · have hc' := hc
    simp only [Bool.and_eq_true, decide_eq_true_eq] at hc'
    obtain ⟨h1, hcn⟩ := hc'
    obtain ⟨c1, c2, c3⟩ := cnt_C hd hx hcn
    obtain ⟨d', hd'⟩ : ∃ d', d.accepted (prp x) = d' := ⟨_, rfl⟩
    have hf : d'.C = d.C ++ [prp x] ∧ d'.bal = d.bal ∧ d'.vd = d.vd ∧ d'.M = d.M ∧ d'.g = d.g ∧ d'.N = d.N ∧ (d'.ph = 1 ∨ (d'.ph = 2 ∧ (d.add (prp x)).enough = true)) := by
      rw [← hd']
      unfold Pd.accepted Pd.accept1
      by_cases he : (d.add (prp x)).enough = true
      · rw [if_pos (by rw [hc, he]; rfl)]
        exact ⟨rfl, rfl, rfl, rfl, rfl, rfl, .inr ⟨rfl, he⟩⟩
      · rw [if_neg (by rw [hc, Bool.eq_false_iff.2 he]; decide), if_pos hc]
        exact ⟨rfl, rfl, rfl, rfl, rfl, rfl, .inl h1⟩
    rw [hd']
    obtain ⟨f1, f2, f3, f4, f5, f6, f7⟩ := hf
    have hd2 : Pg n d' := ⟨f4.trans hd.M, f5.trans hd.g, f6.trans hd.N, by rw [f1]; exact c1, by rw [f1]; exact c2, by rw [f2]; exact hd.pos, by rcases f7 with e | ⟨e, _⟩ <;> omega⟩
    have hz2 := Z.Xinv.accepted hz y x d.z d'.z (zo hy) (by show d.ph.toNat = 1; rw [h1]; rfl) hTx f2 f3 (by show (fun i => decide (prp i ∈ d'.C)) = _; rw [f1]; exact c3) (by
      rcases f7 with e | ⟨e, he⟩
      · exact .inl (by show d'.ph.toNat = 1; rw [e]; rfl)
      · refine .inr ⟨by show d'.ph.toNat = 2; rw [e]; rfl, ?_⟩
        have he' : d'.enough = true := by
          unfold Pd.enough at he ⊢
          rw [f1, f4]
          exact he
        exact enough_many hd2 he')
    refine ⟨_, ⟨h.pos, h.five, by rw [up_z, up_zo]; exact hz2, hmade, fun u e hu => ?_, fun u hu => ?_, fun u e hu hp => ?_⟩, hmono⟩
    · by_cases e' : u = y
      · subst e'
        rw [up_same] at hu
        injection hu with hu
        subst hu
        exact ⟨hd2, hyn⟩
      · rw [up_ne _ _ e'] at hu
        exact h.q u e hu
    · by_cases e' : u = y
      · subst e'
        exact ⟨d', up_same _ _ _, by rcases f7 with e | ⟨e, _⟩ <;> omega⟩
      · rw [up_ne _ _ e']
        exact h.hw u hu
    · by_cases e' : u = y
      · subst e'
        rw [up_same] at hu
        injection hu with hu
        subst hu
        exact ⟨hv.trans f3.symm, hw⟩
      · rw [up_ne _ _ e'] at hu
        exact h.hv u e hu hp
  · have hsame : d.accepted (prp x) = d := by
      unfold Pd.accepted Pd.accept1
      rw [if_neg (by rw [Bool.eq_false_iff.2 hc]; simp), if_neg hc]
    rw [hsame, ← hy, up_id]
    exact ⟨_, ⟨h.pos, h.five, by rw [up_z]; exact hz, hmade, h.q, h.hw, h.hv⟩, hmono⟩

/-- no acceptor has promised more than any proposer has. -/
def PrB (n : Nat) (A : Nat → Ad) (top : Nat) : Prop := ∀ i, i < n → (A i).pr ≤ ((top * 256 + 255 : Nat) : Int)
theorem PrB.rise {n : Nat} {A : Nat → Ad} {top : Nat} (h : PrB n A top) : PrB n A (top + 1) := fun i hi => by
  have := h i hi
  exact Int.le_trans this (Int.ofNat_le.2 (by omega))
theorem PrB.prep {n : Nat} {A : Nat → Ad} {top : Nat} (h : PrB n A top) (x : Nat) {b : Int} (hb : b ≤ ((top * 256 + 255 : Nat) : Int)) : PrB n (up A x ((A x).prep b)) top := fun i hi => by
  by_cases e : i = x
  · subst e
    rw [up_same]
    unfold Ad.prep
    split
    · exact hb
    · exact h i hi
  · rw [up_ne _ _ e]
    exact h i hi
theorem PrB.acc {n : Nat} {A : Nat → Ad} {top : Nat} (h : PrB n A top) (x : Nat) {b : Int} (y : VD) (hb : b ≤ ((top * 256 + 255 : Nat) : Int)) : PrB n (up A x ((A x).acc b y)) top := fun i hi => by
  by_cases e : i = x
  · subst e
    rw [up_same]
    unfold Ad.acc
    split
    · exact hb
    · exact h i hi
  · rw [up_ne _ _ e]
    exact h i hi
theorem PInv.bal {n : Nat} {A : Nat → Ad} {Q : Nat → Option Pd} {v : Nat → VD} {w : Nat → Bool} {top : Nat} {g : Xg VD} (h : PInv n A Q v w top g) {x : Nat} {d : Pd} (hx : Q x = some d) : d.bal ≤ ((top * 256 + 255 : Nat) : Int) := h.z.top x d.z (zo hx)
/-- what a step makes of the plain states. -/
structure StR (n : Nat) (kd : Int) (x y : Nat) (v : Nat → VD) (w : Nat → Bool) (A : Nat → Ad) (Q : Nat → Option Pd) (top : Nat) (v' : Nat → VD) (w' : Nat → Bool) (A' : Nat → Ad) (Q' : Nat → Option Pd) (top' : Nat) : Prop where
  s0 : kd = 0 → A' = A ∧ Q' = up Q x (some (Pd.init 0 1 (memP n) (((top + 1) * 256 + x : Nat) : Int))) ∧ top' = top + 1
  s1 : kd = 1 → ∀ d, Q y = some d → (A x).may d.bal = true → A' = up A x ((A x).prep d.bal) ∧ ∃ T : List EV, T.length = x ∧ ∃ acc vd, Q' = up Q y (some (d.promise (prp x) T acc vd (A x).has))
  s2 : kd = 2 → ∀ d, Q x = some d → d.ready = true → A' = A ∧ ∃ p, Q' = up Q x (some (d.propose [p])) ∧ w' = up w x true
  s3 : kd = 3 → ∀ d, Q y = some d → w y = true → (A x).may d.bal = true → A' = up A x ((A x).acc d.bal (v y)) ∧ Q' = up Q y (some (d.accepted (prp x))) ∧ w' = w
  pr : PrB n A top → PrB n A' top'
/-- may still be promised. -/
theorem Ad.prep_may {a : Ad} {b : Int} (h : a.may b = true) : (a.prep b).may b = true := by
  rw [Ad.prep_yes h]
  simp only [Ad.may, Bool.and_eq_true, decide_eq_true_eq] at h ⊢
  exact ⟨h.1, Int.le_refl _⟩
theorem Ad.acc_may {a : Ad} {b : Int} {y : VD} (h : a.may b = true) : (a.acc b y).may b = true := by
  rw [Ad.acc_yes h]
  simp only [Ad.may, Bool.and_eq_true, decide_eq_true_eq] at h ⊢
  exact ⟨h.1, Int.le_refl _⟩
theorem Ad.prep_has {a : Ad} {b : Int} : (a.prep b).has = a.has := by
  unfold Ad.prep
  split <;> rfl
theorem may_up {n : Nat} {A : Nat → Ad} {B : Int} (h : ∀ j, j < n → (A j).may B = true) (x : Nat) {a : Ad} (ha : a.may B = true) : ∀ j, j < n → (up A x a j).may B = true := fun j hj => by
  by_cases e : j = x
  · subst e
    rw [up_same]
    exact ha
  · rw [up_ne _ _ e]
    exact h j hj
theorem memP_succ (n : Nat) : memP (n + 1) = memP n ++ [prp n] := by simp [memP, List.range_succ]
theorem memP_len (n : Nat) : (memP n).length = n := by simp [memP]
/-- the last proposer has asked some. -/
structure EA (n i : Nat) (B : Int) (H : Nat → Bool) (A : Nat → Ad) (Q : Nat → Option Pd) : Prop where
  may : ∀ j, j < n → (A j).may B = true
  has : ∀ j, j < n → (A j).has = H j
  q : ∃ d, Q 0 = some d ∧ d.ph = 0 ∧ d.bal = B ∧ d.M = memP n ∧ d.C = memP i ∧ d.Lg.length = i - 1 ∧ (d.hh = true → ∃ j, j < n ∧ H j = true)
theorem EA.start {n : Nat} {A : Nat → Ad} {Q : Nat → Option Pd} {v v' : Nat → VD} {w w' : Nat → Bool} {top top' : Nat} {A' : Nat → Ad} {Q' : Nat → Option Pd} (hm : ∀ i, i < n → (A i).made = true) (hp : PrB n A top) (h : StR n 0 0 0 v w A Q top v' w' A' Q' top') :
    EA n 0 (((top + 1) * 256 + 0 : Nat) : Int) (fun i => (A i).has) A' Q' := by
  obtain ⟨rfl, rfl, -⟩ := h.s0 rfl
  refine ⟨fun j hj => ?_, fun j hj => rfl, _, up_same _ _ _, rfl, rfl, rfl, rfl, rfl, fun e => by cases e⟩
  have h1 := hp j hj
  have h2 := hm j hj
  simp only [Ad.may, Bool.and_eq_true, decide_eq_true_eq]
  exact ⟨⟨h2, by omega⟩, by omega⟩
theorem EA.step {n i : Nat} {B : Int} {H : Nat → Bool} {A : Nat → Ad} {Q : Nat → Option Pd} {v v' : Nat → VD} {w w' : Nat → Bool} {top top' : Nat} {A' : Nat → Ad} {Q' : Nat → Option Pd} (hE : EA n i B H A Q) (hi : i < n) (h : StR n 1 i 0 v w A Q top v' w' A' Q' top') : EA n (i + 1) B H A' Q' := by
  obtain ⟨d, hQ, h0, hb, hM, hC, hL, hh⟩ := hE.q
  have hmay := hE.may i hi
  obtain ⟨rfl, T, hT, acc, vd, rfl⟩ := h.s1 rfl d hQ (hb.symm ▸ hmay)
  rw [hb]
  refine ⟨may_up hE.may i (Ad.prep_may hmay), fun j hj => ?_, _, up_same _ _ _, ?_⟩
  · by_cases e : j = i
    · subst e
      rw [up_same, Ad.prep_has]
      exact hE.has j hj
    · rw [up_ne _ _ e]
      exact hE.has j hj
  have hc : d.cnt (prp i) = true := by
    simp only [Pd.cnt, Bool.and_eq_true, decide_eq_true_eq]
    rw [hC, hM]
    refine ⟨fun hm => ?_, mem_memP.2 hi⟩
    have := mem_memP.1 hm
    omega
  unfold Pd.promise
  rw [if_pos (by rw [hc, decide_eq_true h0]; rfl)]
  have hl : ∀ e : Pd, (e.longer T).C = e.C ∧ (e.longer T).bal = e.bal ∧ (e.longer T).ph = e.ph ∧ (e.longer T).M = e.M ∧ (e.longer T).hh = e.hh ∧ (e.longer T).Lg.length = max e.Lg.length T.length := fun e => by
    unfold Pd.longer
    split
    · exact ⟨rfl, rfl, rfl, rfl, rfl, by show T.length = _; omega⟩
    · exact ⟨rfl, rfl, rfl, rfl, rfl, by omega⟩
  have hh2 : ∀ (e : Pd) acc yv hs, (e.hold acc yv hs).C = e.C ∧ (e.hold acc yv hs).bal = e.bal ∧ (e.hold acc yv hs).ph = e.ph ∧ (e.hold acc yv hs).M = e.M ∧ (e.hold acc yv hs).Lg = e.Lg ∧ ((e.hold acc yv hs).hh = true → e.hh = true ∨ hs = true) := fun e acc yv hs => by
    unfold Pd.hold
    split
    · rename_i hc
      refine ⟨rfl, rfl, rfl, rfl, rfl, fun _ => .inr ?_⟩
      simp only [Bool.and_eq_true] at hc
      exact hc.1
    · exact ⟨rfl, rfl, rfl, rfl, rfl, fun h => .inl h⟩
  obtain ⟨l1, l2, l3, l4, l5, l6⟩ := hl (d.add (prp i))
  obtain ⟨k1, k2, k3, k4, k5, k6⟩ := hh2 ((d.add (prp i)).longer T) acc vd (A i).has
  refine ⟨(k3.trans l3).trans h0, (k2.trans l2).trans hb, (k4.trans l4).trans hM, (k1.trans l1).trans ?_, ?_, fun e => ?_⟩
  · show d.C ++ [prp i] = _
    rw [hC, memP_succ]
  · rw [k5, l6, hT]
    show max d.Lg.length i = _
    omega
  · rcases k6 e with e | e
    · rw [l5] at e
      exact hh e
    · exact ⟨i, hi, by rw [← hE.has i hi]; exact e⟩
/-- it has proposed, and some have accepted. -/
structure EB (n i : Nat) (B : Int) (H : Nat → Bool) (A : Nat → Ad) (Q : Nat → Option Pd) (w : Nat → Bool) : Prop where
  may : ∀ j, j < n → (A j).may B = true
  hw : w 0 = true
  q : ∃ d, Q 0 = some d ∧ d.bal = B ∧ d.M = memP n ∧ ((d.ph = 1 ∧ d.C = memP i ∧ i < n / 2 + 1) ∨ d.ph = 2) ∧ ((∃ j, j < n ∧ H j = true) ∨ (d.vd.1.length = 1 ∧ d.vd.2.length = n - 1))
theorem EB.start {n : Nat} {B : Int} {H : Nat → Bool} {A : Nat → Ad} {Q : Nat → Option Pd} {v v' : Nat → VD} {w w' : Nat → Bool} {top top' : Nat} {A' : Nat → Ad} {Q' : Nat → Option Pd} (hE : EA n n B H A Q) (hn : 0 < n) (h : StR n 2 0 0 v w A Q top v' w' A' Q' top') : EB n 0 B H A' Q' w' := by
  obtain ⟨d, hQ, h0, hb, hM, hC, hL, hh⟩ := hE.q
  have hr : d.ready = true := by
    simp only [Pd.ready, Pd.enough, Bool.and_eq_true, decide_eq_true_eq]
    rw [hM, hC, memP_len]
    exact ⟨h0, by omega⟩
  obtain ⟨rfl, p, rfl, rfl⟩ := h.s2 rfl d hQ hr
  refine ⟨hE.may, up_same _ _ _, _, up_same _ _ _, hb, hM, .inl ⟨rfl, rfl, by omega⟩, ?_⟩
  by_cases e : d.hh = true
  · exact .inl (hh e)
  · right
    show (d.choose [p]).1.length = 1 ∧ (d.choose [p]).2.length = n - 1
    unfold Pd.choose
    rw [if_neg e]
    exact ⟨rfl, hL⟩
theorem EB.step {n i : Nat} {B : Int} {H : Nat → Bool} {A : Nat → Ad} {Q : Nat → Option Pd} {v v' : Nat → VD} {w w' : Nat → Bool} {top top' : Nat} {A' : Nat → Ad} {Q' : Nat → Option Pd} (hE : EB n i B H A Q w) (hi : i < n) (h : StR n 3 i 0 v w A Q top v' w' A' Q' top') : EB n (i + 1) B H A' Q' w' := by
  obtain ⟨d, hQ, hb, hM, hC, hv⟩ := hE.q
  have hmay := hE.may i hi
  obtain ⟨rfl, rfl, rfl⟩ := h.s3 rfl d hQ hE.hw (hb.symm ▸ hmay)
  rw [hb]
  refine ⟨may_up hE.may i (Ad.acc_may hmay), hE.hw, _, up_same _ _ _, ?_⟩
  rcases hC with ⟨h1, hC, hlt⟩ | h2
  · have hc : d.cnt (prp i) = true := by
      simp only [Pd.cnt, Bool.and_eq_true, decide_eq_true_eq]
      rw [hC, hM]
      refine ⟨fun hm => ?_, mem_memP.2 hi⟩
      have := mem_memP.1 hm
      omega
    have hcc : (d.add (prp i)).C = memP (i + 1) := by
      show d.C ++ [prp i] = _
      rw [hC, memP_succ]
    have hen : (d.add (prp i)).enough = decide (n / 2 + 1 ≤ i + 1) := by
      unfold Pd.enough
      rw [hcc, show (d.add (prp i)).M = memP n from hM, memP_len, memP_len]
    unfold Pd.accepted Pd.accept1
    by_cases he : (d.add (prp i)).enough = true
    · rw [if_pos (by rw [hc, he, decide_eq_true h1]; rfl)]
      exact ⟨hb, hM, .inr rfl, hv⟩
    · rw [if_neg (by rw [hc, Bool.eq_false_iff.2 he]; simp), if_pos (by rw [hc, decide_eq_true h1]; rfl)]
      refine ⟨hb, hM, .inl ⟨h1, hcc, ?_⟩, hv⟩
      rw [hen] at he
      have := of_decide_eq_false (Bool.eq_false_iff.2 he)
      omega
  · have : d.accepted (prp i) = d := by
      unfold Pd.accepted Pd.accept1
      rw [if_neg (by simp [h2]), if_neg (by simp [h2])]
    rw [this]
    exact ⟨hb, hM, .inr h2, hv⟩
theorem EB.done {n : Nat} {B : Int} {H : Nat → Bool} {A : Nat → Ad} {Q : Nat → Option Pd} {w : Nat → Bool} (hE : EB n n B H A Q w) (hn : 0 < n) : ∃ d, Q 0 = some d ∧ d.ph = 2 ∧ d.missing = [] ∧ ((∃ j, j < n ∧ H j = true) ∨ (d.vd.1.length = 1 ∧ d.vd.2.length = n - 1)) := by
  obtain ⟨d, hQ, hb, hM, hC, hv⟩ := hE.q
  have h2 : d.ph = 2 := by
    rcases hC with ⟨_, _, h⟩ | h
    · omega
    · exact h
  exact ⟨d, hQ, h2, by simp [Pd.missing, h2], hv⟩
/-- the remainder of a number that is one of the few. -/
theorem rem_self {n i : Nat} (h : i < n) : ((i : Int).tmod n + n).tmod n = (i : Int) := by
  have h1 : (i : Int).tmod n = i := Int.tmod_eq_of_lt (by omega) (by omega)
  rw [h1, Int.tmod_eq_emod_of_nonneg (by omega), Int.add_emod_right]
  exact Int.emod_eq_of_lt (by omega) (by omega)

end Go.Proofs.Ytfkmodmgihadkaa
