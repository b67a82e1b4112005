/-
 Texts of the proof, merged: RowAre, RowLess, RowCopy, RowIns, VerMath, UpdMath, QuerySpec, QuerySl, AdmitSpec, QueryOwn, QueryAre, StabMath, FindSpec, IndexMath, EngMath, EngBr, Rec, RecLim, RecEq, RowIsP, RowEqP, RowEqQ, BrQuery.
-/
import Derived.Test.YtdhglmoanpkeoaaEQ1
import Derived.Test.YtdhglmoanpkeoaaEQ2
import Derived.Test.YtdhglmoanpkeoaaEQ5
import Derived.Maps.AppendAt
import Derived.Laws.CopyOwn
import Derived.Lib.MinMax
import Derived.Laws.StructEq
namespace Go.Proofs.Ytdhglmoanpkeoaa
open Go.RowKit
set_option linter.unusedVariables false
set_option linter.unusedSimpArgs false
/-- Are they rows? -/
def areB (rs : List RowD) : Bool := (List.range rs.length).all (fun i => rowB (rs.getD i (0, [])) && (decide (i = 0) || decide ((rs.getD (i - 1) (0, [])).1 < (rs.getD i (0, [])).1))) && decide (rs.length ≤ 32)
/-- A version: its number, values, birth and death. -/
abbrev VerD := Int × List Int × Int × Int
def v0D : VerD := (0, [], 0, 0)
def visP (born died t : Int) : Prop := born ≤ t ∧ (died = -1 ∨ t < died)
instance (a b c : Int) : Decidable (visP a b c) := by unfold visP; infer_instance
def lifeP (born died now : Int) : Prop := 0 ≤ born ∧ born ≤ now ∧ (died = -1 ∨ born < died ∧ died ≤ now)
instance (a b c : Int) : Decidable (lifeP a b c) := by unfold lifeP; infer_instance
def verB (v : VerD) (now : Int) : Bool := rowB (v.1, v.2.1) && decide (lifeP v.2.2.1 v.2.2.2 now)
def apartP (i1 b1 d1 i2 b2 d2 : Int) : Prop := i1 ≠ i2 ∨ (d1 ≠ -1 ∧ d1 ≤ b2) ∨ (d2 ≠ -1 ∧ d2 ≤ b1)
instance (a b c d e f : Int) : Decidable (apartP a b c d e f) := by unfold apartP; infer_instance
def apartB (a b : VerD) : Bool := decide (apartP a.1 a.2.2.1 a.2.2.2 b.1 b.2.2.1 b.2.2.2)
/-- Two valid versions are apart iff they are not seen together when the later one is born. -/
def seenP (i1 b1 d1 i2 b2 d2 : Int) : Prop := i1 = i2 ∧ visP b1 d1 (max b1 b2) ∧ visP b2 d2 (max b1 b2)
instance (a b c d e f : Int) : Decidable (seenP a b c d e f) := by unfold seenP; infer_instance
/-- The first n versions are valid and apart. -/
def VersP (l : List VerD) (now : Int) (n : Nat) : Prop := ∀ i, i < n → verB (l.getD i v0D) now = true ∧ ∀ k, k < i → apartB (l.getD i v0D) (l.getD k v0D) = true
instance (l : List VerD) (now : Int) (n : Nat) : Decidable (VersP l now n) := by unfold VersP; infer_instance
def ShortP (ss : List (List VerD)) (n : Nat) : Prop := ∀ i, i < n → (ss.getD i []).length ≤ 4
instance (ss : List (List VerD)) (n : Nat) : Decidable (ShortP ss n) := by unfold ShortP; infer_instance
def storeP (ss : List (List VerD)) (now : Int) : Prop := ((1 ≤ ss.length ∧ ss.length ≤ 8) ∧ (0 ≤ now ∧ now ≤ 100000)) ∧ ShortP ss ss.length ∧ VersP ss.flatten now ss.flatten.length
instance (ss : List (List VerD)) (now : Int) : Decidable (storeP ss now) := by unfold storeP; infer_instance
def storeB (ss : List (List VerD)) (now : Int) : Bool := decide (storeP ss now)
/-- An update: its kind, row, field and value. -/
abbrev UpdD := Int × (Int × List Int) × Int × Int
def insP (u : UpdD) : Prop := u.1 = 1 ∧ rowB u.2.1 = true ∧ u.2.2.1 = 0 ∧ u.2.2.2 = 0
def delP (u : UpdD) : Prop := u.1 = 2 ∧ (0 ≤ u.2.1.1 ∧ u.2.1.1 ≤ 999) ∧ u.2.1.2.length = 0 ∧ u.2.2.1 = 0 ∧ u.2.2.2 = 0
def setP (u : UpdD) : Prop := u.1 = 3 ∧ (0 ≤ u.2.1.1 ∧ u.2.1.1 ≤ 999) ∧ u.2.1.2.length = 0 ∧ (0 ≤ u.2.2.1 ∧ u.2.2.1 ≤ 2) ∧ (0 ≤ u.2.2.2 ∧ u.2.2.2 ≤ 99)
instance (u : UpdD) : Decidable (insP u) := by unfold insP; infer_instance
instance (u : UpdD) : Decidable (delP u) := by unfold delP; infer_instance
instance (u : UpdD) : Decidable (setP u) := by unfold setP; infer_instance
def updB (u : UpdD) : Bool := decide (insP u) || (decide (delP u) || decide (setP u))
/- Where the living version of a row lies, and where there is room. -/
def aliveB (id : Int) (v : VerD) : Bool := decide (v.1 = id ∧ v.2.2.2 = -1)
def hasB (id : Int) (l : List VerD) : Bool := l.any (aliveB id)
def segI (ss : List (List VerD)) (id : Int) : Nat := ss.findIdx (hasB id)
def freeB (l : List VerD) : Bool := decide (l.length < 4)
def roomI (ss : List (List VerD)) : Nat := ss.findIdx freeB
/- What an update makes. -/
def okP (ss : List (List VerD)) (now : Int) (u : UpdD) : Prop := storeB ss now = true ∧ updB u = true ∧ now < 100000 ∧ (u.1 = 1 ↔ ¬ segI ss u.2.1.1 < ss.length) ∧ (u.1 ≠ 2 → roomI ss < ss.length)
instance (ss : List (List VerD)) (now : Int) (u : UpdD) : Decidable (okP ss now u) := by unfold okP; infer_instance
abbrev StoreD := List (List VerD) × Int
/- A store stays valid. -/
/- Reclaiming. -/
abbrev c0D : CondD := (0, 0, 0)
def condsB (cs : List CondD) : Bool := (List.range cs.length).all (fun i => condB (cs.getD i c0D) && (decide (i = 0) || decide ((cs.getD (i - 1) c0D).1 < (cs.getD i c0D).1)))
def fieldsB (os : List Int) : Bool := os.all (fun x => decide (0 ≤ x ∧ x ≤ 2)) && decide (1 ≤ os.length ∧ os.length ≤ 3)
def queryB (id tn : Int) (cs : List CondD) (os : List Int) : Bool := condsB cs && (decide (0 ≤ id ∧ id ≤ 23) && (decide (0 ≤ tn ∧ tn ≤ 3) && (decide (cs.length ≤ 3) && fieldsB os)))
/-- A query's data: number, tenant, conditions, fields. -/
abbrev QD := Int × Int × List CondD × List Int
def q0D : QD := (0, 0, [], [])
/-- The slice v reads as the queries qs. -/
def QueriesR (w : World) (v : Value) (qs : List QD) : Prop :=
 (qs = [] ∧ ∃ a cap, v = .slice a 0 cap) ∨ ∃ (b off cap : Nat) (vs us : Nat → Value), v = .slice (some ⟨b, off, none⟩) qs.length cap ∧ qs.length ≤ cap ∧ b < w.heap.size ∧
  ∀ j, j < qs.length → w.cell? ⟨b, off + j * 4, none⟩ = some (.int .i64 (qs.getD j q0D).1) ∧ w.cell? ⟨b, off + j * 4 + 1, none⟩ = some (.int .i64 (qs.getD j q0D).2.1) ∧ w.cell? ⟨b, off + j * 4 + 2, none⟩ = some (vs j) ∧ w.cell? ⟨b, off + j * 4 + 3, none⟩ = some (us j) ∧
   CondsR w (vs j) (qs.getD j q0D).2.2.1 ∧ Ints w (us j) (qs.getD j q0D).2.2.2
/-- The slice v owns the queries qs, in blocks from B on, each block once: the conditions of query j lie in vs (2 j), its fields in vs (2 j + 1). -/
def OwnsQ (w : World) (B : Nat) (v : Value) (qs : List QD) : Prop :=
 ∃ (cs : List Value) (vs : Nat → Value), w.ownsRow B 90 4 v qs.length cs ∧
  (∀ j, j < qs.length → cs[j * 4]? = some (.int .i64 (qs.getD j q0D).1) ∧ cs[j * 4 + 1]? = some (.int .i64 (qs.getD j q0D).2.1) ∧ cs[j * 4 + 2]? = some (vs (2 * j)) ∧ cs[j * 4 + 3]? = some (vs (2 * j + 1)) ∧
   OwnsC w B (vs (2 * j)) (qs.getD j q0D).2.2.1 ∧ OwnsN w B (vs (2 * j + 1)) (qs.getD j q0D).2.2.2) ∧
  (∀ i, i < 2 * qs.length → ∀ b, (vs i).ownBlock = some b → v.ownBlock ≠ some b) ∧
  ∀ i j, i < 2 * qs.length → j < 2 * qs.length → i ≠ j → ∀ b, (vs i).ownBlock = some b → (vs j).ownBlock ≠ some b
/-- Does the order hold each field once? -/
def orderB (os : List Int) : Bool := decide (os.length = 3) && (List.range os.length).all fun i => decide (0 ≤ os.getD i 0 ∧ os.getD i 0 ≤ 2) && !decide (os.getD i 0 ∈ os.take i)
abbrev ChargeD := Int × Int × List Int × List Int × List Int
abbrev ActD := QD × Int × List Int × Int × Int × Int × List RowD
abbrev FinD := QD × Int × Int × List RowD
abbrev EngD := StoreD × Int × List Int × List ActD × List FinD × List ChargeD × Int
def x0D : ChargeD := (0, 0, [], [], [])
def a0D : ActD := (q0D, 0, [], 0, 0, 0, [])
def f0D : FinD := (q0D, 0, 0, [])
/- All of a list. -/
/- What is valid. -/
def chargeHP (x : ChargeD) : Prop := (1 ≤ x.2.2.1.length ∧ x.2.2.1.length ≤ 8) ∧ (x.2.2.2.1.length = x.2.2.1.length ∧ x.2.2.2.2.length = x.2.2.1.length) ∧ (0 ≤ x.1 ∧ x.1 ≤ 7) ∧ (0 ≤ x.2.1 ∧ x.2.1 ≤ 4)
instance (x : ChargeD) : Decidable (chargeHP x) := by unfold chargeHP; infer_instance
def tenB (t : Int) : Bool := decide (0 ≤ t ∧ t ≤ 3)
def getB (b r : Int) : Bool := decide (0 ≤ r ∧ r ≤ b)
def chargeB (x : ChargeD) : Bool := (setB x.2.2.1 && decide (chargeHP x)) && (x.2.2.2.1.all tenB && x.2.2.2.2.all (getB x.2.1))
def TodoTo (l : List Int) (n : Nat) (k : Nat) : Prop := ∀ i, i < k → (0 ≤ l.getD i 0 ∧ l.getD i 0 < n) ∧ (0 < i → l.getD (i - 1) 0 < l.getD i 0)
instance (l : List Int) (n k : Nat) : Decidable (TodoTo l n k) := by unfold TodoTo; infer_instance
def todoP (l : List Int) (n : Nat) : Prop := 1 ≤ l.length ∧ TodoTo l n l.length
instance (l : List Int) (n : Nat) : Decidable (todoP l n) := by unfold todoP; infer_instance
def todoB (l : List Int) (n : Nat) : Bool := decide (todoP l n)
def listB (l : List RowD) : Bool := decide (l.length ≤ 1000) && l.all rowB
def qdB (q : QD) : Bool := queryB q.1 q.2.1 q.2.2.1 q.2.2.2
def actHP (s : StoreD) (a : ActD) : Prop := (0 ≤ a.2.1 ∧ a.2.1 ≤ s.2) ∧ (0 ≤ a.2.2.2.1 ∧ a.2.2.2.1 ≤ 100000) ∧ (0 ≤ a.2.2.2.2.1 ∧ a.2.2.2.2.1 ≤ 1000) ∧ (0 ≤ a.2.2.2.2.2.1 ∧ a.2.2.2.2.2.1 ≤ 32)
instance (s : StoreD) (a : ActD) : Decidable (actHP s a) := by unfold actHP; infer_instance
def actB (s : StoreD) (a : ActD) : Bool := (qdB a.1 && decide (actHP s a)) && (todoB a.2.2.1 s.1.length && listB a.2.2.2.2.2.2)
def finHP (now : Int) (d : FinD) : Prop := (0 ≤ d.2.1 ∧ d.2.1 ≤ now) ∧ (0 ≤ d.2.2.1 ∧ d.2.2.1 ≤ 100000)
instance (now : Int) (d : FinD) : Decidable (finHP now d) := by unfold finHP; infer_instance
def finB (now : Int) (d : FinD) : Bool := (qdB d.1 && decide (finHP now d)) && listB d.2.2.2
def ActsTo (s : StoreD) (l : List ActD) (k : Nat) : Prop := ∀ i, i < k → actB s (l.getD i a0D) = true ∧ (0 < i → (l.getD (i - 1) a0D).1.1 < (l.getD i a0D).1.1)
instance (s : StoreD) (l : List ActD) (k : Nat) : Decidable (ActsTo s l k) := by unfold ActsTo; infer_instance
def actsB (s : StoreD) (l : List ActD) : Bool := decide (ActsTo s l l.length)
def engHP (e : EngD) : Prop := (0 ≤ e.2.1 ∧ e.2.1 < e.1.1.length) ∧ e.2.2.2.1.length ≤ 8 ∧ (0 ≤ e.2.2.2.2.2.2 ∧ e.2.2.2.2.2.2 ≤ 100000) ∧ e.2.2.2.2.1.length ≤ 1000 ∧ e.2.2.2.2.2.1.length ≤ 1000
instance (e : EngD) : Decidable (engHP e) := by unfold engHP; infer_instance
def engB (e : EngD) : Bool := (storeB e.1.1 e.1.2 && (decide (engHP e) && orderB e.2.2.1)) && (actsB e.1 e.2.2.2.1 && (e.2.2.2.2.1.all (finB e.1.2) && e.2.2.2.2.2.1.all chargeB))
/- A new engine. -/
/- The active query with a number. -/
def hasA (id : Int) (a : ActD) : Bool := decide (a.1.1 = id)
def findA (l : List ActD) (id : Int) : Int := if l.findIdx (hasA id) < l.length then (l.findIdx (hasA id) : Int) else -1
/- Admission: the new query comes before the first with a greater number. -/
def limB (c : Int) : Bool := decide (0 ≤ c ∧ c ≤ 32)
def admitP (e : EngD) (q : QD) (c : Int) : Prop := engB e = true ∧ qdB q = true ∧ limB c = true ∧ findA e.2.2.2.1 q.1 = -1 ∧ e.2.2.2.1.length < 8
instance (e : EngD) (q : QD) (c : Int) : Decidable (admitP e q c) := by unfold admitP; infer_instance
/- Cancellation, updates. -/
theorem act_at {w : World} {v : Value} {l : List ActD} (h : SlR tActive w v l) {k : Nat} (hk : k < l.length) :
  ∃ (b off cap : Nat) (p2 : Option Addr) (c2 : Nat) (p3 : Option Addr) (c3 : Nat) (p5 : Option Addr) (c5 : Nat) (p9 : Option Addr) (c9 : Nat), v = .slice (some ⟨b, off, none⟩) l.length cap ∧ b < w.heap.size ∧ w.cell? ⟨b, off + k * 10, none⟩ = some (.int .i64 (l.getD k a0D).1.1) ∧ w.cell? ⟨b, off + k * 10 + 1, none⟩ = some (.int .i64 (l.getD k a0D).1.2.1) ∧ w.cell? ⟨b, off + k * 10 + 2, none⟩ = some (.slice p2 (l.getD k a0D).1.2.2.1.length c2) ∧ w.cell? ⟨b, off + k * 10 + 3, none⟩ = some (.slice p3 (l.getD k a0D).1.2.2.2.length c3) ∧ w.cell? ⟨b, off + k * 10 + 4, none⟩ = some (.int .i64 (l.getD k a0D).2.1) ∧ w.cell? ⟨b, off + k * 10 + 5, none⟩ = some (.slice p5 (l.getD k a0D).2.2.1.length c5) ∧ w.cell? ⟨b, off + k * 10 + 6, none⟩ = some (.int .i64 (l.getD k a0D).2.2.2.1) ∧ w.cell? ⟨b, off + k * 10 + 7, none⟩ = some (.int .i64 (l.getD k a0D).2.2.2.2.1) ∧ w.cell? ⟨b, off + k * 10 + 8, none⟩ = some (.int .i64 (l.getD k a0D).2.2.2.2.2.1) ∧ w.cell? ⟨b, off + k * 10 + 9, none⟩ = some (.slice p9 (l.getD k a0D).2.2.2.2.2.2.length c9) ∧ SlR tCond w (.slice p2 (l.getD k a0D).1.2.2.1.length c2) (l.getD k a0D).1.2.2.1 ∧ SlR tInt w (.slice p3 (l.getD k a0D).1.2.2.2.length c3) (l.getD k a0D).1.2.2.2 ∧ SlR tInt w (.slice p5 (l.getD k a0D).2.2.1.length c5) (l.getD k a0D).2.2.1 ∧ SlR tRow w (.slice p9 (l.getD k a0D).2.2.2.2.2.2.length c9) (l.getD k a0D).2.2.2.2.2.2 := by
 obtain ⟨b, off, cap, cs, hv, hb, hc, hR⟩ := slR_at h hk
 change tActive.R w cs (l.getD k a0D) at hR
 generalize l.getD k a0D = r at *
 obtain ⟨⟨a0, a1, x2, x3⟩, a4, x5, a6, a7, a8, x9⟩ := r
 obtain ⟨v2, v3, v5, v9, rfl, h2, h3, h5, h9⟩ := tActive_R hR
 obtain ⟨p2, c2, rfl⟩ := slR_len h2
 obtain ⟨p3, c3, rfl⟩ := slR_len h3
 obtain ⟨p5, c5, rfl⟩ := slR_len h5
 obtain ⟨p9, c9, rfl⟩ := slR_len h9
 exact ⟨b, off, cap, p2, c2, p3, c3, p5, c5, p9, c9, hv, hb, hc 0 (by decide), hc 1 (by decide), hc 2 (by decide), hc 3 (by decide), hc 4 (by decide), hc 5 (by decide), hc 6 (by decide), hc 7 (by decide), hc 8 (by decide), hc 9 (by decide), h2, h3, h5, h9⟩
theorem fin_at {w : World} {v : Value} {l : List FinD} (h : SlR tFinished w v l) {k : Nat} (hk : k < l.length) :
  ∃ (b off cap : Nat) (p2 : Option Addr) (c2 : Nat) (p3 : Option Addr) (c3 : Nat) (p6 : Option Addr) (c6 : Nat), v = .slice (some ⟨b, off, none⟩) l.length cap ∧ b < w.heap.size ∧ w.cell? ⟨b, off + k * 7, none⟩ = some (.int .i64 (l.getD k f0D).1.1) ∧ w.cell? ⟨b, off + k * 7 + 1, none⟩ = some (.int .i64 (l.getD k f0D).1.2.1) ∧ w.cell? ⟨b, off + k * 7 + 2, none⟩ = some (.slice p2 (l.getD k f0D).1.2.2.1.length c2) ∧ w.cell? ⟨b, off + k * 7 + 3, none⟩ = some (.slice p3 (l.getD k f0D).1.2.2.2.length c3) ∧ w.cell? ⟨b, off + k * 7 + 4, none⟩ = some (.int .i64 (l.getD k f0D).2.1) ∧ w.cell? ⟨b, off + k * 7 + 5, none⟩ = some (.int .i64 (l.getD k f0D).2.2.1) ∧ w.cell? ⟨b, off + k * 7 + 6, none⟩ = some (.slice p6 (l.getD k f0D).2.2.2.length c6) ∧ SlR tCond w (.slice p2 (l.getD k f0D).1.2.2.1.length c2) (l.getD k f0D).1.2.2.1 ∧ SlR tInt w (.slice p3 (l.getD k f0D).1.2.2.2.length c3) (l.getD k f0D).1.2.2.2 ∧ SlR tRow w (.slice p6 (l.getD k f0D).2.2.2.length c6) (l.getD k f0D).2.2.2 := by
 obtain ⟨b, off, cap, cs, hv, hb, hc, hR⟩ := slR_at h hk
 change tFinished.R w cs (l.getD k f0D) at hR
 generalize l.getD k f0D = r at *
 obtain ⟨⟨a0, a1, x2, x3⟩, a4, a5, x6⟩ := r
 obtain ⟨v2, v3, v6, rfl, h2, h3, h6⟩ := tFinished_R hR
 obtain ⟨p2, c2, rfl⟩ := slR_len h2
 obtain ⟨p3, c3, rfl⟩ := slR_len h3
 obtain ⟨p6, c6, rfl⟩ := slR_len h6
 exact ⟨b, off, cap, p2, c2, p3, c3, p6, c6, hv, hb, hc 0 (by decide), hc 1 (by decide), hc 2 (by decide), hc 3 (by decide), hc 4 (by decide), hc 5 (by decide), hc 6 (by decide), h2, h3, h6⟩
theorem chg_at {w : World} {v : Value} {l : List ChargeD} (h : SlR tCharge w v l) {k : Nat} (hk : k < l.length) :
  ∃ (b off cap : Nat) (p2 : Option Addr) (c2 : Nat) (p3 : Option Addr) (c3 : Nat) (p4 : Option Addr) (c4 : Nat), v = .slice (some ⟨b, off, none⟩) l.length cap ∧ b < w.heap.size ∧ w.cell? ⟨b, off + k * 5, none⟩ = some (.int .i64 (l.getD k x0D).1) ∧ w.cell? ⟨b, off + k * 5 + 1, none⟩ = some (.int .i64 (l.getD k x0D).2.1) ∧ w.cell? ⟨b, off + k * 5 + 2, none⟩ = some (.slice p2 (l.getD k x0D).2.2.1.length c2) ∧ w.cell? ⟨b, off + k * 5 + 3, none⟩ = some (.slice p3 (l.getD k x0D).2.2.2.1.length c3) ∧ w.cell? ⟨b, off + k * 5 + 4, none⟩ = some (.slice p4 (l.getD k x0D).2.2.2.2.length c4) ∧ SlR tInt w (.slice p2 (l.getD k x0D).2.2.1.length c2) (l.getD k x0D).2.2.1 ∧ SlR tInt w (.slice p3 (l.getD k x0D).2.2.2.1.length c3) (l.getD k x0D).2.2.2.1 ∧ SlR tInt w (.slice p4 (l.getD k x0D).2.2.2.2.length c4) (l.getD k x0D).2.2.2.2 := by
 obtain ⟨b, off, cap, cs, hv, hb, hc, hR⟩ := slR_at h hk
 change tCharge.R w cs (l.getD k x0D) at hR
 generalize l.getD k x0D = r at *
 obtain ⟨a0, a1, x2, x3, x4⟩ := r
 obtain ⟨v2, v3, v4, rfl, h2, h3, h4⟩ := tCharge_R hR
 obtain ⟨p2, c2, rfl⟩ := slR_len h2
 obtain ⟨p3, c3, rfl⟩ := slR_len h3
 obtain ⟨p4, c4, rfl⟩ := slR_len h4
 exact ⟨b, off, cap, p2, c2, p3, c3, p4, c4, hv, hb, hc 0 (by decide), hc 1 (by decide), hc 2 (by decide), hc 3 (by decide), hc 4 (by decide), h2, h3, h4⟩
/-- The record of a row. -/
def recV (id : Int) (xs : List Int) : Value := .agg #[.int .i64 id, .int .i64 xs.length, .int .i64 (xs.getD 0 0), .int .i64 (xs.getD 1 0), .int .i64 (xs.getD 2 0)]
theorem info_size {P : Program} {e : TypeId} {z : Option Value} {n b : Nat} (h : (P.info? e).map (fun i => (i.zero, i.size, i.bytes)) = some (z, n, b)) : (P.info? e).map (·.size) = some n := by
 cases hq : P.info? e with
 | none => rw [hq] at h; simp at h
 | some i => rw [hq] at h; simp at h; simp [h.2.1]
theorem copy_src {w : World} {a : Option Addr} {cap g : Nat} {xs : List Int} (h : Ints w (.slice a xs.length cap) xs) : 0 < ((xs.take 3).map (Value.int .i64)).length → (some ⟨g, 2, none⟩ : Option Addr) = some ⟨g, 2, none⟩ ∧ ∃ ad, a = some ad ∧ ∀ j v, ((xs.take 3).map (Value.int .i64))[j]? = some v → w.cell? (ad.add j) = some v := by
 intro h0
 refine ⟨rfl, ?_⟩
 rcases h with ⟨rfl, _⟩ | ⟨b, off, cap', e, _, _, hc⟩
 ·
  simp at h0
 ·
  simp only [Value.slice.injEq] at e
  obtain ⟨rfl, _, _⟩ := e
  refine ⟨_, rfl, fun j v hj => ?_⟩
  rw [Go.WideShapes.add_plain]
  rw [List.getElem?_map, List.getElem?_take] at hj
  by_cases hlt : j < 3
  ·
   rw [if_pos hlt] at hj
   by_cases hl : j < xs.length
   ·
    rw [hc j hl]
    rw [List.getElem?_eq_getElem hl] at hj
    simpa [List.getD, hl] using hj
   ·
    rw [List.getElem?_eq_none (by omega)] at hj
    simp at hj
  ·
   rw [if_neg hlt] at hj
   simp at hj
theorem splice_rec (a b : Value) (xs : List Int) : splice [a, b, .int .i64 0, .int .i64 0, .int .i64 0] 2 ((xs.take 3).map (Value.int .i64)) = [a, b, .int .i64 (xs.getD 0 0), .int .i64 (xs.getD 1 0), .int .i64 (xs.getD 2 0)] := by
 match xs with
 | [] => rfl
 | [x] => rfl
 | [x, y] => rfl
 | x :: y :: z :: r => rfl
set_option maxHeartbeats 4000000 in
set_option maxRecDepth 100000 in
theorem recordOf_any (id : Int) (vv : Value) (xs : List Int) (w : World) (h : Ints w vv xs) (hn : xs.length ≤ 1048576) :
  Calls Try.prog 146 #[.agg #[.int .i64 id, vv]] w fun e w' => e = .returned (recV id xs) ∧ Below w.heap.size w w' := by
 have H := Lib.hid h
 have HN := Lib.hid hn
 obtain ⟨va, vcap, rfl⟩ := ints_len h
 clear h hn
 go_enter Try.func146, Try.ntmps146
 go_wp2
 have hh : Below w.heap.size w (((w.alloc (.cells #[.int .i64 id, .slice va xs.length vcap] 73)).alloc (.cells #[.int .i64 0, .int .i64 0, .int .i64 0, .int .i64 0, .int .i64 0] 174)).alloc (.cells #[.int .i64 id, .int .i64 xs.length, .int .i64 0, .int .i64 0, .int .i64 0] 174)) := (((Below.refl _ w).alloc (Nat.le_refl _) _).alloc (by simp) _).alloc (by simp; omega) _
 have g2 : (((w.alloc (.cells #[.int .i64 id, .slice va xs.length vcap] 73)).alloc (.cells #[.int .i64 0, .int .i64 0, .int .i64 0, .int .i64 0, .int .i64 0] 174)).alloc (.cells #[.int .i64 id, .int .i64 xs.length, .int .i64 0, .int .i64 0, .int .i64 0] 174)).heap[w.heap.size + 2]? = some (.cells #[.int .i64 id, .int .i64 xs.length, .int .i64 0, .int .i64 0, .int .i64 0] 174 (0, 0)) := by
  have := heap_alloc_new ((w.alloc (.cells #[.int .i64 id, .slice va xs.length vcap] 73)).alloc (.cells #[.int .i64 0, .int .i64 0, .int .i64 0, .int .i64 0, .int .i64 0] 174)) (.cells #[.int .i64 id, .int .i64 xs.length, .int .i64 0, .int .i64 0, .int .i64 0] 174)
  simpa only [World.size_alloc] using this
 have g1 : (((w.alloc (.cells #[.int .i64 id, .slice va xs.length vcap] 73)).alloc (.cells #[.int .i64 0, .int .i64 0, .int .i64 0, .int .i64 0, .int .i64 0] 174)).alloc (.cells #[.int .i64 id, .int .i64 xs.length, .int .i64 0, .int .i64 0, .int .i64 0] 174)).heap[w.heap.size + 1]? = some (.cells #[.int .i64 0, .int .i64 0, .int .i64 0, .int .i64 0, .int .i64 0] 174 (0, 0)) := by
  rw [Below.heap_alloc _ _ _ (by simp)]
  have := heap_alloc_new (w.alloc (.cells #[.int .i64 id, .slice va xs.length vcap] 73)) (.cells #[.int .i64 0, .int .i64 0, .int .i64 0, .int .i64 0, .int .i64 0] 174)
  simpa only [World.size_alloc] using this
 have g0 : (((w.alloc (.cells #[.int .i64 id, .slice va xs.length vcap] 73)).alloc (.cells #[.int .i64 0, .int .i64 0, .int .i64 0, .int .i64 0, .int .i64 0] 174)).alloc (.cells #[.int .i64 id, .int .i64 xs.length, .int .i64 0, .int .i64 0, .int .i64 0] 174)).heap[w.heap.size]? = some (.cells #[.int .i64 id, .slice va xs.length vcap] 73 (0, 0)) := by
  rw [Below.heap_alloc _ _ _ (by simp; omega), Below.heap_alloc _ _ _ (by simp)]
  exact heap_alloc_new w _
 have hs : (((w.alloc (.cells #[.int .i64 id, .slice va xs.length vcap] 73)).alloc (.cells #[.int .i64 0, .int .i64 0, .int .i64 0, .int .i64 0, .int .i64 0] 174)).alloc (.cells #[.int .i64 id, .int .i64 xs.length, .int .i64 0, .int .i64 0, .int .i64 0] 174)).heap.size = w.heap.size + 3 := by simp [World.size_alloc]
 generalize (((w.alloc (.cells #[.int .i64 id, .slice va xs.length vcap] 73)).alloc (.cells #[.int .i64 0, .int .i64 0, .int .i64 0, .int .i64 0, .int .i64 0] 174)).alloc (.cells #[.int .i64 id, .int .i64 xs.length, .int .i64 0, .int .i64 0, .int .i64 0] 174)) = W at *
 have b0 := cell_of_row W _ 1 _ _ _ g0
 simp at b0
 have I2 := ints_below H.out hh
 refine wp_region_held_drew (S := fun w' => w'.cell? ⟨w.heap.size, 1, none⟩ = some (.slice va xs.length vcap)) (by kernel_rfl) b0 (fun hHeld => ?_)
 refine tR (i := 0) (v := ?_) ?_ ?_; rotate_left
 ·
  intro w hSw; (try dsimp only at hSw); go_simp; try (with_reducible rfl)
 try simp only [Act.put, lA, lB, lC]
 refine tR (i := 1) (v := ?_) ?_ ?_; rotate_left
 ·
  intro w hSw; (try dsimp only at hSw); go_simp; try (with_reducible rfl)
 try simp only [Act.put, lA, lB, lC]
 refine tR (i := 2) (v := ?_) ?_ ?_; rotate_left
 ·
  intro w hSw; (try dsimp only at hSw); go_simp; try (with_reducible rfl)
 try simp only [Act.put, lA, lB, lC]
 refine tR (i := 3) (v := ?_) ?_ ?_; rotate_left
 ·
  intro w hSw; (try dsimp only at hSw); go_simp; try (with_reducible rfl)
 try simp only [Act.put, lA, lB, lC]
 refine wpAnyH_ready (rs := [4]) (by kernel_rfl) (by simp) ?_
 refine AllReadyH.cons (o := _) (by simp only [hA, hB, hC]; rfl) (fun K hK => ?_) AllReadyH.nil
 refine step_copy_splice rfl (.tmp 11) (.tmp 13) 37 37 rfl 3 Try.underlying37 (info_size Try.infoI64) _ _ _ _ _ _ rfl rfl (w.heap.size + 2) 2 [.int .i64 id, .int .i64 xs.length, .int .i64 0, .int .i64 0, .int .i64 0] _ g2 ((xs.take 3).map (Value.int .i64)) (by simp [Nat.min_comm]) (copy_src I2) (by simp; omega) (fun u hu => by obtain ⟨y, _, rfl⟩ := List.mem_map.1 hu; rfl) (w.heap.size + 2) W (below_drew (Below.refl _ W)) (Nat.le_refl _) ?_
 intro W2 G2 bA
 rw [splice_rec] at G2
 have k0 := (bA.block w.heap.size (by omega)).trans g0
 have b1 := cell_of_row W2 _ 1 _ _ _ k0
 simp at b1
 refine hK.out _ _ b1 (fun hHeld2 => ?_)
 clear hK K hHeld
 try simp only [Act.put, lA, lB, lC]
 refine wpAnyH_done (by kernel_rfl) ?_ _
 have k1 := (bA.block (w.heap.size + 1) (by omega)).trans g1
 have k2 := G2.out
 have hbb := hh.trans (bA.mono (by omega))
 clear G2 bA g0 g1 g2 I2 hHeld2 b0 b1 k0 hh hs
 obtain ⟨n, hn2⟩ : ∃ n : Nat, n = xs.length := ⟨_, rfl⟩
 have c0 := cell_of_row W2 _ 0 _ _ _ k2
 have d0 := cell_of_row W2 _ 0 _ _ _ k1
 have f0 := frozen_of_row W2 _ 0 _ _ k1
 have c1 := cell_of_row W2 _ 1 _ _ _ k2
 have d1 := cell_of_row W2 _ 1 _ _ _ k1
 have f1 := frozen_of_row W2 _ 1 _ _ k1
 have c2 := cell_of_row W2 _ 2 _ _ _ k2
 have d2 := cell_of_row W2 _ 2 _ _ _ k1
 have f2 := frozen_of_row W2 _ 2 _ _ k1
 have c3 := cell_of_row W2 _ 3 _ _ _ k2
 have d3 := cell_of_row W2 _ 3 _ _ _ k1
 have f3 := frozen_of_row W2 _ 3 _ _ k1
 have c4 := cell_of_row W2 _ 4 _ _ _ k2
 have d4 := cell_of_row W2 _ 4 _ _ _ k1
 have f4 := frozen_of_row W2 _ 4 _ _ k1
 simp at c0 c1 c2 c3 c4 d0 d1 d2 d3 d4
 clear k2 hn2
 generalize hx0 : xs[0]?.getD 0 = x0 at c2
 generalize hx1 : xs[1]?.getD 0 = x1 at c3
 generalize hx2 : xs[2]?.getD 0 = x2 at c4
 have HX := Lib.hid (And.intro hx0 (And.intro hx1 hx2))
 clear hx0 hx1 hx2
 go_wp2
 have r0 := heap_setCell_same W2 (w.heap.size + 1) 0 _ _ (.int .i64 id) k1
 have r1 := heap_setCell_same _ (w.heap.size + 1) 1 _ _ (.int .i64 xs.length) r0
 have r2 := heap_setCell_same _ (w.heap.size + 1) 2 _ _ (.int .i64 x0) r1
 have r3 := heap_setCell_same _ (w.heap.size + 1) 3 _ _ (.int .i64 x1) r2
 have r4 := heap_setCell_same _ (w.heap.size + 1) 4 _ _ (.int .i64 x2) r3
 have B4 := (((((hbb.setCell (p := ⟨w.heap.size + 1, 0, none⟩) (by simp) (.int .i64 id)).setCell (p := ⟨w.heap.size + 1, 1, none⟩) (by simp) (.int .i64 xs.length)).setCell (p := ⟨w.heap.size + 1, 2, none⟩) (by simp) (.int .i64 x0)).setCell (p := ⟨w.heap.size + 1, 3, none⟩) (by simp) (.int .i64 x1)).setCell (p := ⟨w.heap.size + 1, 4, none⟩) (by simp) (.int .i64 x2))
 clear r0 r1 r2 r3 k1
 have e0 := cell_of_row _ _ 0 _ _ _ r4
 have e1 := cell_of_row _ _ 1 _ _ _ r4
 have e2 := cell_of_row _ _ 2 _ _ _ r4
 have e3 := cell_of_row _ _ 3 _ _ _ r4
 have e4 := cell_of_row _ _ 4 _ _ _ r4
 simp at e0 e1 e2 e3 e4
 clear r4
 refine bodyPost_ret (v := .agg #[.int .i64 id, .int .i64 xs.length, .int .i64 x0, .int .i64 x1, .int .i64 x2]) ?_ rfl ?_
 ·
  simp [results, Try.f146, go_sem, e0, e1, e2, e3, e4]
 ·
  obtain ⟨rfl, rfl, rfl⟩ := HX.out
  exact ⟨by simp [recV], B4⟩
theorem eqIn_arr (d : Nat) (a b c x y z : Int) (w : World) : (Op.equalIn (d + 2) 172 (.agg #[.int .i64 a, .int .i64 b, .int .i64 c]) (.agg #[.int .i64 x, .int .i64 y, .int .i64 z])).run Try.prog w = .ok (a == x && b == y && c == z) w := by
 have u := Try.underlying172
 have u3 := Try.underlying3
 have z3 := Try.sizeOf3
 have g := Try.isAgg3
 rw [Op.equalIn]
 simp only [Sem.run_bind, run_underlying u, Result.andThen_ok, z3]
 simp only [Std.Legacy.Range.forIn_eq_forIn_range', Std.Legacy.Range.size]
 simp [List.range', g, z3, go_sem, run_equalIn_int (P := Try.prog) _ d _ _ _ _ _ u3]
 by_cases h1 : a = x <;> by_cases h2 : b = y <;> by_cases h3 : c = z <;> simp [h1, h2, h3]
theorem guard_rec (o1 o2 : Operand) (xs ys : Array Value) (w : World) : Sem.run Try.prog (eqGuard .eql 174 o1 o2 (.agg xs) (.agg ys)) w = .ok () w := run_eqGuard_agg w _ _ _ _ _ _ (by kernel_rfl)
set_option maxHeartbeats 2000000 in
theorem eql_rec (i n a b c j m x y z : Int) (w : World) : Sem.run Try.prog (binOp .eql 174 (.agg #[.int .i64 i, .int .i64 n, .int .i64 a, .int .i64 b, .int .i64 c]) (.agg #[.int .i64 j, .int .i64 m, .int .i64 x, .int .i64 y, .int .i64 z])) w = .ok (.bool (i == j && n == m && (a == x && b == y && c == z))) w := by
 have hS : Try.prog.underlying 174 = some (.struct (Try.prog.fieldsOf 174)) := by kernel_rfl
 have hp : Try.prog.stoodInHeld 174 = false := by kernel_rfl
 have u := Try.underlying3
 have z3 := Try.sizeOf3
 have g := Try.isAgg3
 have ga := Try.isAgg172
 have za := Try.sizeOf172
 rw [run_eql_struct, show (10000 : Nat) = 9999 + 1 from rfl, run_equalIn_agg w 9999 174 _ _ hS hp]
 simp only [Program.fieldsOf, Try.underlying174]
 have hh := fun w => eqIn_arr 9997 a b c x y z w
 simp only [show 9997 + 2 = 9999 from rfl] at hh
 go_simp
 by_cases h1 : i = j <;> by_cases h2 : n = m <;> by_cases h3 : a = x <;> by_cases h4 : b = y <;> by_cases h5 : c = z <;> simp [h1, h2, h3, h4, h5]
set_option maxHeartbeats 2000000 in
set_option maxRecDepth 100000 in
theorem equalInts (v u : Value) (xs ys : List Int) (w : World) (h : Ints w v xs) (g : Ints w u ys) (hn : xs.length ≤ 1048576) (hm : ys.length ≤ 1048576) :
  Calls Try.prog 71 #[v, u] w fun e w' => e = .returned (.bool (decide (xs = ys))) ∧ Below w.heap.size w w' := by
 have H := Lib.hid h
 have G := Lib.hid g
 obtain ⟨a, cap, rfl⟩ := ints_len h
 obtain ⟨a2, cap2, rfl⟩ := ints_len g
 clear h g
 by_cases hl : xs.length = ys.length
 ·
  have HL := Lib.hid hl
  have hne : ((xs.length : Int) != (ys.length : Int)) = false := by rw [hl]; simp
  clear hl
  go_enter Try.func71, Try.ntmps71
  go_wp2
  clear hne
  go_loopw [13] (fun i wr => ∃ k : Nat, k ≤ xs.length ∧ i = .int .i64 k ∧ Hid (∀ j, j < k → xs.getD j 0 = ys.getD j 0) ∧ Below w.heap.size w wr) (fun i _ => xs.length - (intOf i).toNat)
  case atStart => exact ⟨0, Nat.zero_le _, rfl, Lib.hid (fun j hj => by omega), Below.refl _ _⟩
  case round =>
   obtain ⟨k, hk, rfl, hall, hbel⟩ := hrel
   by_cases hlt : k < xs.length
   ·
    obtain ⟨b, off, cap', hv, hbl, hc⟩ := ints_cell H.out (by omega)
    simp only [Value.slice.injEq] at hv
    obtain ⟨rfl, _, rfl⟩ := hv
    obtain ⟨b2, off2, cap2', hv2, hbl2, hc2⟩ := ints_cell G.out (by have := HL.out; omega)
    simp only [Value.slice.injEq] at hv2
    obtain ⟨rfl, _, rfl⟩ := hv2
    have hcell := (hbel.cell (p := ⟨b, off + k, none⟩) hbl).trans (hc k hlt)
    have hcell2 := (hbel.cell (p := ⟨b2, off2 + k, none⟩) hbl2).trans (hc2 k (by have := HL.out; omega))
    have i1 : (0 : Int) ≤ (k : Int) := by omega
    have i2 : (k : Int) < (xs.length : Int) := by omega
    have i3 : (k : Int) < (ys.length : Int) := by have := HL.out; omega
    clear hc hc2
    by_cases he : xs.getD k 0 = ys.getD k 0
    ·
     have HA : Hid (∀ j, j < k + 1 → xs.getD j 0 = ys.getD j 0) := Lib.hid (fun j hj => by
      by_cases e : j = k
      ·
       exact e ▸ he
      ·
       exact hall.out j (by omega))
     rw [← he] at hcell2
     clear he hall
     generalize xs.getD k 0 = y at hcell hcell2
     go_wp2
     go_quiet (fail)
     go_wp2
     go_roundw
     case rel => exact ⟨k + 1, by omega, by go_num, HA, below_dn hbel _⟩
     case measure => simp [intOf]; omega
    ·
     have HF := Lib.hid (decide_eq_false (list_ne_at hlt he))
     have heq : (xs.getD k 0 != ys.getD k 0) = true := by rw [bne_iff_ne]; exact he
     clear he hall
     generalize xs.getD k 0 = y at hcell heq
     generalize ys.getD k 0 = z at hcell2 heq
     go_wp2
     go_quiet (fail)
     go_wp2
     go_ret
     exact ⟨ret_b HF.out.symm, below_dn hbel _⟩
   ·
    obtain rfl : k = xs.length := by omega
    have HT := Lib.hid (decide_eq_true (list_eq_all HL.out hall.out))
    clear hall
    go_wp2
    go_ret
    exact ⟨ret_b HT.out.symm, hbel⟩
 ·
  have HF := Lib.hid (decide_eq_false (show ¬ xs = ys from fun e => hl (by rw [e])))
  have hne : ((xs.length : Int) != (ys.length : Int)) = true := by rw [bne_iff_ne]; omega
  clear hl
  go_enter Try.func71, Try.ntmps71
  go_wp2
  go_ret
  exact ⟨ret_b HF.out.symm, Below.refl _ _⟩
theorem ints_zero {w : World} {a : Option Addr} {n cap : Nat} (h : n = 0) : Ints w (.slice a n cap) [] := by subst h; exact Or.inl ⟨rfl, _, _, rfl⟩
theorem beyond_ints {W w : World} {b off cap : Nat} {xs : List Int} (hb : Below W.heap.size W w) (h2 : xs.length ≤ cap) (h3 : b < W.heap.size) (H : ∀ (j : Nat), j < xs.length → W.cell? ⟨b, off + j, none⟩ = some (.int .i64 (xs.getD j 0))) :
  Ints w (.slice (some ⟨b, off + (min 3 (xs.length : Int)).toNat, none⟩) (xs.length - (min 3 (xs.length : Int)).toNat) (cap - (min 3 (xs.length : Int)).toNat)) (xs.drop 3) := by
 by_cases hl : xs.length ≤ 3
 ·
  have e : xs.drop 3 = [] := List.drop_eq_nil_of_le hl
  have e2 : xs.length - (min 3 (xs.length : Int)).toNat = 0 := by omega
  rw [e, e2]
  exact Or.inl ⟨rfl, _, _, rfl⟩
 ·
  have e2 : (min 3 (xs.length : Int)).toNat = 3 := by omega
  rw [e2]
  refine Or.inr ⟨b, off + 3, cap - 3, by rw [List.length_drop], by rw [List.length_drop]; omega, Nat.lt_of_lt_of_le h3 hb.size, fun j hj => ?_⟩
  rw [List.length_drop] at hj
  have := (hb.cell (p := ⟨b, off + (3 + j), none⟩) h3).trans (H (3 + j) (by omega))
  rw [← Nat.add_assoc] at this
  rw [this]
  congr 2
  simp [List.getD, List.getElem?_drop]
set_option maxHeartbeats 4000000 in
set_option maxRecDepth 100000 in
theorem valuesBeyond_any (id : Int) (vv : Value) (xs : List Int) (w : World) (h : Ints w vv xs) (hn : xs.length ≤ 1048576) :
  Calls Try.prog 147 #[.agg #[.int .i64 id, vv]] w fun e w' => ∃ u, e = .returned u ∧ Ints w' u (xs.drop 3) ∧ Below w.heap.size w w' := by
 rcases h with ⟨rfl, a, cap, rfl⟩ | ⟨b, off, cap, rfl, h2, h3, h4⟩
 ·
  go_enter Try.func147, Try.ntmps147
  go_wp2
  all_goals
   go_ret
   exact ⟨_, rfl, Or.inl ⟨rfl, _, _, rfl⟩, (Below.refl _ w).alloc (Nat.le_refl _) _⟩
 ·
  have H := Lib.hid h4
  clear h4
  go_enter Try.func147, Try.ntmps147
  go_wp2
  ·
   go_ret
   have e : xs.drop 3 = [] := List.drop_eq_nil_of_le (by omega)
   have e2 : xs.length - (min 3 (xs.length : Int)).toNat = 0 := by omega
   refine ⟨_, rfl, ?_, (Below.refl _ w).alloc (Nat.le_refl _) _⟩
   rw [e]
   exact ints_zero e2
  ·
   go_ret
   exact ⟨_, rfl, beyond_ints ((Below.refl _ w).alloc (Nat.le_refl _) _) h2 h3 H.out, (Below.refl _ w).alloc (Nat.le_refl _) _⟩
theorem row_eq_parts (id id2 : Int) (xs ys : List Int) : decide (((id, xs) : RowD) = (id2, ys)) = ((id == id2 && (xs.length : Int) == (ys.length : Int) && (xs.getD 0 0 == ys.getD 0 0 && xs.getD 1 0 == ys.getD 1 0 && xs.getD 2 0 == ys.getD 2 0)) && decide (xs.drop 3 = ys.drop 3)) := by
 rw [Bool.eq_iff_iff]
 simp only [Bool.and_eq_true, decide_eq_true_eq, beq_iff_eq, Prod.mk.injEq]
 constructor
 ·
  rintro ⟨rfl, rfl⟩
  exact ⟨⟨⟨rfl, rfl⟩, ⟨rfl, rfl⟩, rfl⟩, rfl⟩
 ·
  rintro ⟨⟨⟨rfl, hl⟩, ⟨h0, h1⟩, h2⟩, h3⟩
  refine ⟨rfl, ?_⟩
  have hl' : xs.length = ys.length := by omega
  match xs, ys, hl', h0, h1, h2, h3 with
  | [], [], _, _, _, _, _ => rfl
  | [x], [y], _, h0, _, _, _ => simp at h0; rw [h0]
  | [x, x2], [y, y2], _, h0, h1, _, _ => simp at h0 h1; rw [h0, h1]
  | x :: x2 :: x3 :: r, y :: y2 :: y3 :: q, _, h0, h1, h2, h3 => simp at h0 h1 h2 h3; rw [h0, h1, h2, h3]
  | [], _ :: _, h, _, _, _, _ => simp at h
  | _ :: _, [], h, _, _, _, _ => simp at h
  | [_], _ :: _ :: _, h, _, _, _, _ => simp at h
  | _ :: _ :: _, [_], h, _, _, _, _ => simp at h
  | [_, _], _ :: _ :: _ :: _, h, _, _, _, _ => simp at h
  | _ :: _ :: _ :: _, [_, _], h, _, _, _, _ => simp at h
theorem box2 {W w : World} {g : Nat} {i j x y : Value} (g0 : W.heap[g]? = some (.cells #[i, x] 73 (0, 0))) (g1 : W.heap[g + 1]? = some (.cells #[j, y] 73 (0, 0))) (hz : g + 1 < W.heap.size) (hb : Below W.heap.size W w) :
  w.cell? ⟨g, 0, none⟩ = some i ∧ w.cell? ⟨g, 1, none⟩ = some x ∧ w.cell? ⟨g + 1, 0, none⟩ = some j ∧ w.cell? ⟨g + 1, 1, none⟩ = some y := by
 have h0 := (hb.block g (by omega)).trans g0
 have h1 := (hb.block (g + 1) hz).trans g1
 have a0 := cell_of_row w _ 0 _ _ _ h0
 have a1 := cell_of_row w _ 1 _ _ _ h0
 have a2 := cell_of_row w _ 0 _ _ _ h1
 have a3 := cell_of_row w _ 1 _ _ _ h1
 simp at a0 a1 a2 a3
 exact ⟨a0, a1, a2, a3⟩
set_option maxHeartbeats 8000000 in
set_option maxRecDepth 100000 in
theorem equalRow_any (id id2 : Int) (v u : Value) (xs ys : List Int) (w : World) (h : Ints w v xs) (g : Ints w u ys) (hn : xs.length ≤ 1048576) (hm : ys.length ≤ 1048576) :
  Calls Try.prog 138 #[.agg #[.int .i64 id, v], .agg #[.int .i64 id2, u]] w fun e w' => e = .returned (.bool (decide (((id, xs) : RowD) = (id2, ys)))) ∧ Below w.heap.size w w' := by
 have HP := Lib.hid (row_eq_parts id id2 xs ys)
 have HR1 := Lib.hid (fun w h => recordOf_any id v xs w h hn)
 have HR2 := Lib.hid (fun w h => recordOf_any id2 u ys w h hm)
 have HB1 := Lib.hid (fun w h => valuesBeyond_any id v xs w h hn)
 have HB2 := Lib.hid (fun w h => valuesBeyond_any id2 u ys w h hm)
 have HE := Lib.hid (fun w p q h g => equalInts p q (xs.drop 3) (ys.drop 3) w h g (by rw [List.length_drop]; omega) (by rw [List.length_drop]; omega))
 have HQ := Lib.hid (fun w => eql_rec id xs.length (xs.getD 0 0) (xs.getD 1 0) (xs.getD 2 0) id2 ys.length (ys.getD 0 0) (ys.getD 1 0) (ys.getD 2 0) w)
 have hgd := fun (o1 o2 : Operand) (xs ys : Array Value) (w : World) => guard_rec o1 o2 xs ys w
 have HV := Lib.hid h
 have HU := Lib.hid g
 unfold recV at HR1 HR2
 obtain ⟨a, cap, rfl⟩ := ints_len h
 obtain ⟨a2, cap2, rfl⟩ := ints_len g
 clear h g hn hm
 generalize xs.getD 0 0 = x0 at *
 generalize xs.getD 1 0 = x1 at *
 generalize xs.getD 2 0 = x2 at *
 generalize ys.getD 0 0 = y0 at *
 generalize ys.getD 1 0 = y1 at *
 generalize ys.getD 2 0 = y2 at *
 generalize decide (((id, xs) : RowD) = (id2, ys)) = r at *
 generalize decide (xs.drop 3 = ys.drop 3) = r2 at *
 generalize (id == id2 && (xs.length : Int) == (ys.length : Int) && (x0 == y0 && x1 == y1 && x2 == y2)) = r1 at *
 have hq := HQ.out
 clear HQ
 cases r1 with
 | false =>
  have HF : Hid (r = false) := Lib.hid (by rw [HP.out]; simp)
  clear HP
  go_enter Try.func138, Try.ntmps138
  go_wp2
  have hh : Below w.heap.size w ((w.alloc (.cells #[.int .i64 id, .slice a xs.length cap] 73)).alloc (.cells #[.int .i64 id2, .slice a2 ys.length cap2] 73)) := ((Below.refl _ w).alloc (Nat.le_refl _) _).alloc (by simp) _
  have g1 : ((w.alloc (.cells #[.int .i64 id, .slice a xs.length cap] 73)).alloc (.cells #[.int .i64 id2, .slice a2 ys.length cap2] 73)).heap[w.heap.size + 1]? = some (.cells #[.int .i64 id2, .slice a2 ys.length cap2] 73 (0, 0)) := by
   have := heap_alloc_new (w.alloc (.cells #[.int .i64 id, .slice a xs.length cap] 73)) (.cells #[.int .i64 id2, .slice a2 ys.length cap2] 73)
   simpa only [World.size_alloc] using this
  have g0 : ((w.alloc (.cells #[.int .i64 id, .slice a xs.length cap] 73)).alloc (.cells #[.int .i64 id2, .slice a2 ys.length cap2] 73)).heap[w.heap.size]? = some (.cells #[.int .i64 id, .slice a xs.length cap] 73 (0, 0)) := by
   rw [Below.heap_alloc _ _ _ (by simp)]
   exact heap_alloc_new w _
  have hz1 : w.heap.size + 1 < ((w.alloc (.cells #[.int .i64 id, .slice a xs.length cap] 73)).alloc (.cells #[.int .i64 id2, .slice a2 ys.length cap2] 73)).heap.size := by simp
  generalize ((w.alloc (.cells #[.int .i64 id, .slice a xs.length cap] 73)).alloc (.cells #[.int .i64 id2, .slice a2 ys.length cap2] 73)) = W at *
  have z1 := box2 g0 g1 hz1 (Below.refl _ W)
  refine wp_region_held_drew (S := fun w' => w'.cell? ⟨w.heap.size, 0, none⟩ = some (.int .i64 id) ∧ w'.cell? ⟨w.heap.size, 1, none⟩ = some (.slice a xs.length cap) ∧ w'.cell? ⟨w.heap.size + 1, 0, none⟩ = some (.int .i64 id2) ∧ w'.cell? ⟨w.heap.size + 1, 1, none⟩ = some (.slice a2 ys.length cap2)) (by kernel_rfl) ⟨z1.1, z1.2.1, z1.2.2.1, z1.2.2.2⟩ (fun hHeld => ?_)
  have cD : Below W.heap.size W W.drew := below_drew (Below.refl _ W)
  refine tR (i := 0) (v := ?_) ?_ ?_; rotate_left
  ·
   intro w hSw; (try dsimp only at hSw); go_simp; try (with_reducible rfl)
  try simp only [Act.put, lA, lB, lC]
  refine tR (i := 2) (v := ?_) ?_ ?_; rotate_left
  ·
   intro w hSw; (try dsimp only at hSw); go_simp; try (with_reducible rfl)
  try simp only [Act.put, lA, lB, lC]
  refine wpAnyH_ready (rs := [1]) (by kernel_rfl) (by simp) ?_
  refine AllReadyH.cons (o := _) (by simp only [hA, hB, hC]; rfl) (fun K hK => ?_) AllReadyH.nil
  go_simp
  refine (HR1.out _ (ints_below HV.out (hh.trans (cD.mono hh.size)))).mono ?_
  rintro e w1 ⟨rfl, bw1⟩
  have cw1 := cD.trans (bw1.mono cD.size)
  have z2 := box2 g0 g1 hz1 cw1
  refine hK.out _ _ ⟨z2.1, z2.2.1, z2.2.2.1, z2.2.2.2⟩ (fun hHeld => ?_)
  clear hK K
  try simp only [Act.put, lA, lB, lC]
  refine wpAnyH_ready (rs := [3]) (by kernel_rfl) (by simp) ?_
  refine AllReadyH.cons (o := _) (by simp only [hA, hB, hC]; rfl) (fun K hK => ?_) AllReadyH.nil
  go_simp
  refine (HR2.out _ (ints_below HU.out (hh.trans (cw1.mono hh.size)))).mono ?_
  rintro e w2 ⟨rfl, bw2⟩
  have cw2 := cw1.trans (bw2.mono cw1.size)
  have z3 := box2 g0 g1 hz1 cw2
  refine hK.out _ _ ⟨z3.1, z3.2.1, z3.2.2.1, z3.2.2.2⟩ (fun hHeld => ?_)
  clear hK K
  try simp only [Act.put, lA, lB, lC]
  refine tR (i := 4) (v := ?_) ?_ ?_; rotate_left
  ·
   intro w hSw; (try dsimp only at hSw); go_simp; try (with_reducible rfl)
  try simp only [Act.put, lA, lB, lC]
  refine tR (i := 5) (v := ?_) ?_ ?_; rotate_left
  ·
   intro w hSw; (try dsimp only at hSw); go_simp; try (with_reducible rfl)
  try simp only [Act.put, lA, lB, lC]
  refine tO (i := 6) ?_
  try simp only [Act.put, lA, lB, lC]
  refine tO (i := 7) ?_
  try simp only [Act.put, lA, lB, lC]
  refine tO (i := 8) ?_
  try simp only [Act.put, lA, lB, lC]
  refine tO (i := 9) ?_
  try simp only [Act.put, lA, lB, lC]
  refine tO (i := 10) ?_
  try simp only [Act.put, lA, lB, lC]
  refine tR (i := 11) (v := ?_) ?_ ?_; rotate_left
  ·
   intro w hSw; (try dsimp only at hSw); go_simp; try (with_reducible rfl)
  try simp only [Act.put, lA, lB, lC]
  refine tR (i := 12) (v := ?_) ?_ ?_; rotate_left
  ·
   intro w hSw; (try dsimp only at hSw); go_simp; try (with_reducible rfl)
  try simp only [Act.put, lA, lB, lC]
  refine wpAnyH_done (by kernel_rfl) ?_ _
  have b11 := hh.trans (cw2.mono hh.size)
  go_wp2
  go_ret
  exact ⟨ret_b HF.out.symm, b11⟩
 | true =>
  have HF : Hid (r = r2) := Lib.hid (by rw [HP.out]; simp)
  clear HP
  go_enter Try.func138, Try.ntmps138
  go_wp2
  have hh : Below w.heap.size w ((w.alloc (.cells #[.int .i64 id, .slice a xs.length cap] 73)).alloc (.cells #[.int .i64 id2, .slice a2 ys.length cap2] 73)) := ((Below.refl _ w).alloc (Nat.le_refl _) _).alloc (by simp) _
  have g1 : ((w.alloc (.cells #[.int .i64 id, .slice a xs.length cap] 73)).alloc (.cells #[.int .i64 id2, .slice a2 ys.length cap2] 73)).heap[w.heap.size + 1]? = some (.cells #[.int .i64 id2, .slice a2 ys.length cap2] 73 (0, 0)) := by
   have := heap_alloc_new (w.alloc (.cells #[.int .i64 id, .slice a xs.length cap] 73)) (.cells #[.int .i64 id2, .slice a2 ys.length cap2] 73)
   simpa only [World.size_alloc] using this
  have g0 : ((w.alloc (.cells #[.int .i64 id, .slice a xs.length cap] 73)).alloc (.cells #[.int .i64 id2, .slice a2 ys.length cap2] 73)).heap[w.heap.size]? = some (.cells #[.int .i64 id, .slice a xs.length cap] 73 (0, 0)) := by
   rw [Below.heap_alloc _ _ _ (by simp)]
   exact heap_alloc_new w _
  have hz1 : w.heap.size + 1 < ((w.alloc (.cells #[.int .i64 id, .slice a xs.length cap] 73)).alloc (.cells #[.int .i64 id2, .slice a2 ys.length cap2] 73)).heap.size := by simp
  generalize ((w.alloc (.cells #[.int .i64 id, .slice a xs.length cap] 73)).alloc (.cells #[.int .i64 id2, .slice a2 ys.length cap2] 73)) = W at *
  have z1 := box2 g0 g1 hz1 (Below.refl _ W)
  refine wp_region_held_drew (S := fun w' => w'.cell? ⟨w.heap.size, 0, none⟩ = some (.int .i64 id) ∧ w'.cell? ⟨w.heap.size, 1, none⟩ = some (.slice a xs.length cap) ∧ w'.cell? ⟨w.heap.size + 1, 0, none⟩ = some (.int .i64 id2) ∧ w'.cell? ⟨w.heap.size + 1, 1, none⟩ = some (.slice a2 ys.length cap2)) (by kernel_rfl) ⟨z1.1, z1.2.1, z1.2.2.1, z1.2.2.2⟩ (fun hHeld => ?_)
  have cD : Below W.heap.size W W.drew := below_drew (Below.refl _ W)
  refine tR (i := 0) (v := ?_) ?_ ?_; rotate_left
  ·
   intro w hSw; (try dsimp only at hSw); go_simp; try (with_reducible rfl)
  try simp only [Act.put, lA, lB, lC]
  refine tR (i := 2) (v := ?_) ?_ ?_; rotate_left
  ·
   intro w hSw; (try dsimp only at hSw); go_simp; try (with_reducible rfl)
  try simp only [Act.put, lA, lB, lC]
  refine wpAnyH_ready (rs := [1]) (by kernel_rfl) (by simp) ?_
  refine AllReadyH.cons (o := _) (by simp only [hA, hB, hC]; rfl) (fun K hK => ?_) AllReadyH.nil
  go_simp
  refine (HR1.out _ (ints_below HV.out (hh.trans (cD.mono hh.size)))).mono ?_
  rintro e w1 ⟨rfl, bw1⟩
  have cw1 := cD.trans (bw1.mono cD.size)
  have z2 := box2 g0 g1 hz1 cw1
  refine hK.out _ _ ⟨z2.1, z2.2.1, z2.2.2.1, z2.2.2.2⟩ (fun hHeld => ?_)
  clear hK K
  try simp only [Act.put, lA, lB, lC]
  refine wpAnyH_ready (rs := [3]) (by kernel_rfl) (by simp) ?_
  refine AllReadyH.cons (o := _) (by simp only [hA, hB, hC]; rfl) (fun K hK => ?_) AllReadyH.nil
  go_simp
  refine (HR2.out _ (ints_below HU.out (hh.trans (cw1.mono hh.size)))).mono ?_
  rintro e w2 ⟨rfl, bw2⟩
  have cw2 := cw1.trans (bw2.mono cw1.size)
  have z3 := box2 g0 g1 hz1 cw2
  refine hK.out _ _ ⟨z3.1, z3.2.1, z3.2.2.1, z3.2.2.2⟩ (fun hHeld => ?_)
  clear hK K
  try simp only [Act.put, lA, lB, lC]
  refine tR (i := 4) (v := ?_) ?_ ?_; rotate_left
  ·
   intro w hSw; (try dsimp only at hSw); go_simp; try (with_reducible rfl)
  try simp only [Act.put, lA, lB, lC]
  refine tR (i := 5) (v := ?_) ?_ ?_; rotate_left
  ·
   intro w hSw; (try dsimp only at hSw); go_simp; try (with_reducible rfl)
  try simp only [Act.put, lA, lB, lC]
  refine tR (i := 6) (v := ?_) ?_ ?_; rotate_left
  ·
   intro w hSw; (try dsimp only at hSw); go_simp; try (with_reducible rfl)
  try simp only [Act.put, lA, lB, lC]
  refine tR (i := 8) (v := ?_) ?_ ?_; rotate_left
  ·
   intro w hSw; (try dsimp only at hSw); go_simp; try (with_reducible rfl)
  try simp only [Act.put, lA, lB, lC]
  refine wpAnyH_ready (rs := [7]) (by kernel_rfl) (by simp) ?_
  refine AllReadyH.cons (o := _) (by simp only [hA, hB, hC]; rfl) (fun K hK => ?_) AllReadyH.nil
  go_simp
  refine (HB1.out _ (ints_below HV.out (hh.trans (cw2.mono hh.size)))).mono ?_
  rintro e w3 ⟨xw3, rfl, iw3, bw3⟩
  have cw3 := cw2.trans (bw3.mono cw2.size)
  have z4 := box2 g0 g1 hz1 cw3
  refine hK.out _ _ ⟨z4.1, z4.2.1, z4.2.2.1, z4.2.2.2⟩ (fun hHeld => ?_)
  clear hK K
  try simp only [Act.put, lA, lB, lC]
  refine wpAnyH_ready (rs := [9]) (by kernel_rfl) (by simp) ?_
  refine AllReadyH.cons (o := _) (by simp only [hA, hB, hC]; rfl) (fun K hK => ?_) AllReadyH.nil
  go_simp
  refine (HB2.out _ (ints_below HU.out (hh.trans (cw3.mono hh.size)))).mono ?_
  rintro e w4 ⟨xw4, rfl, iw4, bw4⟩
  have cw4 := cw3.trans (bw4.mono cw3.size)
  have z5 := box2 g0 g1 hz1 cw4
  refine hK.out _ _ ⟨z5.1, z5.2.1, z5.2.2.1, z5.2.2.2⟩ (fun hHeld => ?_)
  clear hK K
  try simp only [Act.put, lA, lB, lC]
  refine wpAnyH_ready (rs := [10]) (by kernel_rfl) (by simp) ?_
  refine AllReadyH.cons (o := _) (by simp only [hA, hB, hC]; rfl) (fun K hK => ?_) AllReadyH.nil
  go_simp
  refine (HE.out _ xw3 xw4 (ints_below iw3 bw4) iw4).mono ?_
  rintro e w5 ⟨rfl, bw5⟩
  have cw5 := cw4.trans (bw5.mono cw4.size)
  have z6 := box2 g0 g1 hz1 cw5
  refine hK.out _ _ ⟨z6.1, z6.2.1, z6.2.2.1, z6.2.2.2⟩ (fun hHeld => ?_)
  clear hK K
  try simp only [Act.put, lA, lB, lC]
  refine tR (i := 11) (v := ?_) ?_ ?_; rotate_left
  ·
   intro w hSw; (try dsimp only at hSw); go_simp; try (with_reducible rfl)
  try simp only [Act.put, lA, lB, lC]
  refine tR (i := 12) (v := ?_) ?_ ?_; rotate_left
  ·
   intro w hSw; (try dsimp only at hSw); go_simp; try (with_reducible rfl)
  try simp only [Act.put, lA, lB, lC]
  refine wpAnyH_done (by kernel_rfl) ?_ _
  have b11 := hh.trans (cw5.mono hh.size)
  go_wp2
  go_ret
  exact ⟨ret_b HF.out.symm, b11⟩
set_option maxHeartbeats 8000000 in
set_option maxRecDepth 100000 in
theorem equalFunc_any (v u : Value) (rs ss : List RowD) (w : World) (h : RowsR w v rs) (g : RowsR w u ss) (hs : szL rs ≤ 1048576) (ht : szL ss ≤ 1048576) :
  Calls Try.prog 137 #[v, u, .func (.func 138) #[] #[]] w fun e w' => e = .returned (.bool (decide (rs = ss))) ∧ Below w.heap.size w w' := by
 have H := Lib.hid h
 have G := Lib.hid g
 have HS := Lib.hid hs
 have HT := Lib.hid ht
 have hlen := szL_len hs
 have hlen2 := szL_len ht
 obtain ⟨a, cap, rfl⟩ := rowsR_len h
 obtain ⟨a2, cap2, rfl⟩ := rowsR_len g
 clear h g hs ht
 by_cases hl : rs.length = ss.length
 ·
  have HL := Lib.hid hl
  have hne : ((rs.length : Int) != (ss.length : Int)) = false := by rw [hl]; simp
  clear hl
  go_enter Try.func137, Try.ntmps137
  go_wp2
  clear hne
  go_loopw [17] (fun i wr => ∃ k : Nat, k ≤ rs.length ∧ i = .int .i64 k ∧ Hid (∀ j, j < k → rs.getD j (0, []) = ss.getD j (0, [])) ∧ Below w.heap.size w wr) (fun i _ => rs.length - (intOf i).toNat)
  case atStart => exact ⟨0, Nat.zero_le _, rfl, Lib.hid (fun j hj => by omega), Below.refl _ _⟩
  case round =>
   obtain ⟨k, hk, rfl, hall, hbel⟩ := hrel
   by_cases hlt : k < rs.length
   ·
    have hlt2 : k < ss.length := by have := HL.out; omega
    obtain ⟨b, off, cap', vv, hv, hbl, hc1, hc2, hI⟩ := rowsR_at (rowsR_below H.out hbel) hlt
    simp only [Value.slice.injEq] at hv
    obtain ⟨rfl, _, rfl⟩ := hv
    obtain ⟨b2, off2, cap2', uv, hv2, hbl2, hd1, hd2, hJ⟩ := rowsR_at (rowsR_below G.out hbel) hlt2
    simp only [Value.slice.injEq] at hv2
    obtain ⟨rfl, _, rfl⟩ := hv2
    have hxl := szL_row HS.out hlt
    have hyl := szL_row HT.out hlt2
    have i1 : (0 : Int) ≤ (k : Int) := by omega
    have i2 : (k : Int) < (rs.length : Int) := by omega
    have i3 : (k : Int) < (ss.length : Int) := by omega
    have HNE := Lib.hid (fun e => decide_eq_false (rows_ne_at (rs := rs) (ss := ss) (k := k) e))
    have HALL : Hid (rs.getD k (0, []) = ss.getD k (0, []) → ∀ j, j < k + 1 → rs.getD j (0, []) = ss.getD j (0, [])) := Lib.hid (fun he j hj => by
     by_cases e : j = k
     ·
      exact e ▸ he
     ·
      exact hall.out j (by omega))
    clear hall
    generalize rs.getD k (0, []) = r at *
    generalize ss.getD k (0, []) = q at *
    obtain ⟨id, xs⟩ := r
    obtain ⟨id2, ys⟩ := q
    simp only at hc1 hc2 hd1 hd2 hI hJ hxl hyl
    obtain ⟨va, vcap, rfl⟩ := ints_len hI
    obtain ⟨ua, ucap, rfl⟩ := ints_len hJ
    have HSM := Lib.hid (fun w h g => equalRow_any id id2 (.slice va xs.length vcap) (.slice ua ys.length ucap) xs ys w h g hxl hyl)
    have bb := ((Below.refl wr.heap.size wr).alloc (Nat.le_refl _) (.cells #[.int .i64 id, .slice va xs.length vcap] 73)).alloc (by simp) (.cells #[.int .i64 id2, .slice ua ys.length ucap] 73)
    have hd1' := ((Below.refl wr.heap.size wr).alloc (Nat.le_refl _) (.cells #[.int .i64 id, .slice va xs.length vcap] 73)).cell (p := ⟨b2, off2 + k * 2, none⟩) hbl2
    have hd2' := ((Below.refl wr.heap.size wr).alloc (Nat.le_refl _) (.cells #[.int .i64 id, .slice va xs.length vcap] 73)).cell (p := ⟨b2, off2 + k * 2 + 1, none⟩) hbl2
    rw [hd1] at hd1'
    rw [hd2] at hd2'
    by_cases he : ((id, xs) : RowD) = (id2, ys)
    ·
     have HA := Lib.hid (HALL.out he)
     rw [decide_eq_true he] at HSM
     clear he HNE HALL
     go_wp2_with fail
     refine (HSM.out _ (ints_below hI bb) (ints_below hJ bb)).mono ?_
     rintro e w8 ⟨rfl, b9⟩
     have b11 := hbel.trans ((bb.trans (b9.mono bb.size)).mono hbel.size)
     clear b9 bb hd1' hd2'
     go_wp2
     go_roundw
     case rel => exact ⟨k + 1, by omega, by go_num, HA, b11⟩
     case measure => simp [intOf]; omega
    ·
     have HF := Lib.hid (HNE.out he)
     rw [decide_eq_false he] at HSM
     clear he HNE HALL
     go_wp2_with fail
     refine (HSM.out _ (ints_below hI bb) (ints_below hJ bb)).mono ?_
     rintro e w8 ⟨rfl, b9⟩
     have b11 := hbel.trans ((bb.trans (b9.mono bb.size)).mono hbel.size)
     clear b9 bb hd1' hd2'
     go_wp2
     go_ret
     exact ⟨ret_b HF.out.symm, b11⟩
   ·
    obtain rfl : k = rs.length := by omega
    have HE := Lib.hid (decide_eq_true (rows_eq_all HL.out hall.out))
    clear hall
    go_wp2
    go_ret
    exact ⟨ret_b HE.out.symm, hbel⟩
 ·
  have HF := Lib.hid (decide_eq_false (show ¬ rs = ss from fun e => hl (by rw [e])))
  have hne : ((rs.length : Int) != (ss.length : Int)) = true := by rw [bne_iff_ne]; omega
  clear hl
  go_enter Try.func137, Try.ntmps137
  go_wp2
  go_ret
  exact ⟨ret_b HF.out.symm, Below.refl _ _⟩
set_option maxHeartbeats 2000000 in
set_option maxRecDepth 100000 in
theorem implEqualRows (v u : Value) (rs ss : List RowD) (w : World) (h : RowsR w v rs) (g : RowsR w u ss) (hs : szL rs ≤ 1048576) (ht : szL ss ≤ 1048576) :
  Calls Try.prog 116 #[v, u] w fun e w' => e = .returned (.bool (decide (rs = ss))) ∧ Below w.heap.size w w' := by
 have H := Lib.hid (fun w h g => equalFunc_any v u rs ss w h g hs ht)
 have HV := Lib.hid h
 have HU := Lib.hid g
 clear h g hs ht
 generalize decide (rs = ss) = r at *
 go_enter Try.func116, Try.ntmps116
 go_wp2_with fail
 refine (H.out _ HV.out HU.out).mono ?_
 rintro e w1 ⟨rfl, b1⟩
 go_wp2
 go_ret
 exact ⟨rfl, b1⟩
end Go.Proofs.Ytdhglmoanpkeoaa
