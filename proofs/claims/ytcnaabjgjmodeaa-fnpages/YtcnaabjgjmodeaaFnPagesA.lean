import Derived.Test.YtcnaabjgjmodeaaG27
import Derived.Test.YtcnaabjgjmodeaaG09
import Derived.Test.YtcnaabjgjmodeaaG08
namespace Go.Proofs.Ytcnaabjgjmodeaa
set_option maxRecDepth 100000
set_option maxHeartbeats 8000000
open Go.RowKit
set_option linter.unusedVariables false
set_option linter.unusedSimpArgs false
def GetAns (w w' : World) (e : Ending) (D : Bool × List Int) : Prop := ∃ (a : Option Addr) (c : Nat), e = .returned (.agg #[.bool D.1, .slice a D.2.length c]) ∧ Rd .u8 w' (.slice a D.2.length c) D.2 ∧ Same w w'
theorem getAns_any (v : Value) (raw : List Int) (s : Int) (D : Bool × List Int) (w : World) (hB : IsB raw) (hn : raw.length ≤ 1099511627776) (hv : Rd .u8 w v raw) (hD : pageGet raw s = D) :
    Calls Try.prog 13 #[v, .int .i64 s] w fun e w' => GetAns w w' e D := by
  refine (implPageGet_any v raw s w hB hn hv).mono ?_
  rintro e w' ⟨⟨u, ⟨te, a, c, d⟩⟩, rfl, hd, _, ho, hk⟩
  subst hD
  have h := StPageRecord.own_rd ho
  have e1 : pageGet raw s = (u, d) := hd.symm
  rw [e1]
  exact ⟨a, c, rfl, h, hk⟩
theorem sameRec_any (u : Bool) (a a' : Option Addr) (n c c' : Nat) (d : List Int) (w : World) (h1 : Rd .u8 w (.slice a n c) d) (h2 : Rd .u8 w (.slice a' n c') d) :
    Calls Try.prog 18 #[.agg #[.bool u, .slice a n c], .agg #[.bool u, .slice a' n c']] w fun e w' => e = .returned (.bool true) ∧ Same w w' := by
  have hk : Same w ((w.alloc (.cells #[.bool u, .slice a n c] 24)).alloc (.cells #[.bool u, .slice a' n c'] 24)) := ((Kept.refl _ _).alloc _).alloc _
  have k1 := sameB_any _ _ d _ (h1.same hk) (h2.same hk)
  have HK := hid hk
  clear h1 h2 hk
  have eu : (u == u) = true := by simp
  go_enter Try.func18, Try.ntmps18
  go_wp2_with fail
  refine k1.mono ?_
  rintro e w1 ⟨rfl, hk1⟩
  have HK1 := hid (HK.out.trans hk1)
  clear hk1 k1
  go_wp2
  go_ret
  exact ⟨rfl, HK1.out⟩
structure FpI (w wr : World) (pv : Value) (bs : List Int) (R X : Nat) (u : Bool) (a : Option Addr) (dn cd : Nat) (d : List Int) (x : Int) (ya : Option Addr) (yn yc : Nat) (ys : List Int) : Prop where
  page : Rd .u8 wr pv bs
  rbox : Blk wr R 24 [.bool u, .slice a dn cd]
  dat : Rd .u8 wr (.slice a dn cd) d
  xbox : Blk wr X 28 [.int .i64 x, .slice ya yn yc]
  ydat : Rd .u8 wr (.slice ya yn yc) ys
  kept : Same w wr
theorem FpI.same {w wr wx : World} {pv : Value} {bs : List Int} {R X : Nat} {u : Bool} {a : Option Addr} {dn cd : Nat} {d : List Int} {x : Int} {ya : Option Addr} {yn yc : Nat} {ys : List Int} (h : FpI w wr pv bs R X u a dn cd d x ya yn yc ys) (hk : Same wr wx) : FpI w wx pv bs R X u a dn cd d x ya yn yc ys :=
  ⟨h.page.same hk, h.rbox.same hk, h.dat.same hk, h.xbox.same hk, h.ydat.same hk, h.kept.trans hk⟩
theorem rd_page {w : World} {b off c : Nat} {bs : List Int} (h : Rd .u8 w (.slice (some ⟨b, off, none⟩) 4096 c) bs) (hl : bs.length = 4096) : 4096 ≤ c ∧ ∀ i, i < bs.length → w.cell? ⟨b, off + i, none⟩ = some (.int .u8 (bs.getD i 0)) := by
  rcases h.2 with ⟨rfl, _⟩ | ⟨b', off', c', e, hc, hx⟩
  · simp at hl
  · injection e with e1 e2 e3
    injection e1 with e1
    injection e1 with e4 e5
    subst e3 e4 e5
    exact ⟨by omega, hx⟩
theorem bad_len {bs : List Int} (h : ¬ bs.length = 4096) : ownOK bs = false := by
  unfold ownOK
  have e : (bs.length == 4096) = false := by simp [h]
  rw [e]
  rfl
theorem bad_own {bs : List Int} (h : ownOK bs = false) (s : Int) (u : Bool) (d : List Int) (lsn : Int) : setBad bs s u d lsn = true := by unfold setBad; rw [h]; rfl
theorem set_bad {bs : List Int} {s : Int} {u : Bool} {d : List Int} {lsn : Int} (h : setBad bs s u d lsn = true) : pageSet bs s u d lsn = (1, []) := by unfold pageSet; rw [if_pos h]
theorem fault_own {bs : List Int} (hl : bs.length = 4096) : (pageFault bs (numAt bs 12 4) == 0) = ownOK bs := by
  unfold ownOK
  rw [hl]
  simp
theorem setBad_false {bs : List Int} {s : Int} {u : Bool} {d : List Int} {lsn : Int} (h : setBad bs s u d lsn = false) : ownOK bs = true ∧ 0 ≤ s ∧ s < 32 ∧ 0 ≤ lsn ∧ lsn ≤ 1099511627776 ∧ d.length ≤ 1000 ∧ (u = true ∨ d.length = 0) := by
  simp [setBad] at h
  obtain ⟨hok, g1, g2, g3, g4, g5, g6⟩ := h
  refine ⟨hok, by omega, by omega, by omega, by omega, by omega, ?_⟩
  cases u with
  | true => exact .inl rfl
  | false => exact .inr (by have := g6 rfl; simp [this])
theorem setBad_true {bs : List Int} {s : Int} {u : Bool} {d : List Int} {lsn : Int} (h1 : ownOK bs = true) (h2 : 0 ≤ s) (h3 : s < 32) (h4 : 0 ≤ lsn) (h5 : lsn ≤ 1099511627776) (h6 : d.length ≤ 1000) (h7 : u = true ∨ d.length = 0) : setBad bs s u d lsn = false := by
  simp [setBad, h1]
  refine ⟨h2, h3, h4, h5, h6, fun hu => ?_⟩
  rcases h7 with h | h
  · rw [h] at hu; cases hu
  · exact List.length_eq_zero_iff.1 h
def XC (bs : List Int) (s : Nat) (u : Bool) (d : List Int) (lsn left x : Int) (ys : List Int) : Prop := (x = 2 ∧ 3948 < left) ∨ (x = 0 ∧ left ≤ 3948 ∧ Made bs ys lsn left (fun k => if k = s then (u, d) else pageGet bs (k : Int)))
theorem xc_of {bs : List Int} (hB : IsB bs) {s : Int} {u : Bool} {d : List Int} (hd : IsB d) {lsn : Int} (h : setBad bs s u d lsn = false) : ∃ x ys, pageSet bs s u d lsn = (x, ys) ∧ XC bs s.toNat u d lsn (pageUsed bs - ((pageGet bs s).2.length : Int) + d.length) x ys := by
  obtain ⟨hok, g1, g2, _⟩ := setBad_false h
  have hlen := get_length hB hok s.toNat (by omega)
  rw [show ((s.toNat : Nat) : Int) = s from by omega] at hlen
  have hus : pageUsed bs = usedN (slotsOf bs) 32 := by unfold pageUsed; rw [if_pos hok]
  rw [hlen, hus]
  rcases set_cases ⟨hok, hB⟩ s u d hd lsn with ⟨_, e⟩ | ⟨_, h2, e⟩ | ⟨_, h2, e, hm⟩
  · rw [h] at e; cases e
  · exact ⟨2, [], e, .inl ⟨rfl, h2⟩⟩
  · exact ⟨0, _, e, .inr ⟨rfl, by unfold setFull at h2; omega, hm⟩⟩
end Go.Proofs.Ytcnaabjgjmodeaa
