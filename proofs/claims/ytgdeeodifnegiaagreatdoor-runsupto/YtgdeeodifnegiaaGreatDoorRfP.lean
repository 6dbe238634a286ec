/- The document's reader (bywayref, text.go), plain: its state, its tokens taken one by one, its trees; no program. -/
import Derived.Test.YtgdeeodifnegiaaGreatDoorPlainA
namespace Go.Proofs.YtgdeeodifnegiaaGreatDoor.rf
open Go.RowKit

/-- the parser's state: the next token, the place behind it, what was taken, which end a line, the place at which it is no policy, how much is open -/
structure PS where
  next : Tok
  i : Nat
  taken : List Tok
  lines : List Bool
  bad : Int
  opn : Int
def isP (st : PS) (x : ByteArray) : Bool := decide (st.bad < 0) && (st.next.kind == 115 || st.next.kind == 107) && (st.next.text.toList == x.toList)
def failP (st : PS) : PS := if st.bad < 0 then { st with bad := st.next.at_ } else st
def opensP (st : PS) : PS := if st.opn = 8 then { failP st with opn := wrap64 (st.opn + 1) } else { st with opn := wrap64 (st.opn + 1) }
def lineP (st : PS) : PS := if st.bad < 0 then { st with lines := st.lines.set (st.lines.length - 1) true } else st
def isSemi (t : Tok) : Bool := (t.kind == 115) && (t.text.toList == [59])
def tookP (s : ByteArray) (st : PS) : PS := { st with taken := st.taken ++ [st.next], lines := st.lines ++ [isSemi st.next], next := (cutP s st.i).1, i := (cutP s st.i).2 }
/-- what always holds of the parser's state -/
structure Ok (s : ByteArray) (st : PS) : Prop where
  hs : s.size ≤ 600
  hi : st.i ≤ s.size
  tk0 : st.taken.length ≤ st.i
  tk : st.next.kind ≠ 46 → st.taken.length + 1 ≤ st.i
  ln : st.lines.length = st.taken.length
  tx : st.next.text.size ≤ 600
def takeP (s : ByteArray) (st : PS) : PS := if st.next.kind = 33 ∨ st.next.kind = 46 then failP st else if st.bad < 0 then tookP s st else st
def needP (s : ByteArray) (st : PS) (x : ByteArray) : PS := if isP st x = true then takeP s st else failP st
def kindP (s : ByteArray) (st : PS) (k : Int) : PS := if st.next.kind = k then takeP s st else failP st
def wPref : ByteArray := ⟨#[112, 114, 101, 102]⟩
def wMed : ByteArray := ⟨#[109, 101, 100]⟩
def wLen : ByteArray := ⟨#[108, 101, 110]⟩
def wOpen : ByteArray := ⟨#[40]⟩
def wShut : ByteArray := ⟨#[41]⟩
def wPlus : ByteArray := ⟨#[43]⟩
def wMinus : ByteArray := ⟨#[45]⟩
def startsP (st : PS) : Bool := decide (st.bad < 0) && (st.next.kind == 48 || isP st wPref || isP st wMed || isP st wLen || isP st wOpen)
inductive Tr where
  | mk (op text : ByteArray) (n a : Int) (kids : List Tr)
def wNumber : ByteArray := ⟨#[110, 117, 109, 98, 101, 114]⟩
def decP (st : PS) : PS := { st with opn := wrap64 (st.opn - 1) }
mutual
def sumTw (s : ByteArray) : Nat → PS → Option (PS × Tr)
  | 0, _ => none
  | f + 1, st => match termTw s f st with
    | none => none
    | some (st1, t) => sumLp s f st1 t
def sumLp (s : ByteArray) : Nat → PS → Tr → Option (PS × Tr)
  | 0, _, _ => none
  | f + 1, st, t => if (isP st wPlus || isP st wMinus) = true then
      (match termTw s f (takeP s st) with
       | none => none
       | some (st2, x) => sumLp s f st2 (.mk st.next.text ⟨#[]⟩ 0 0 [t, x]))
    else some (st, t)
def termTw (s : ByteArray) : Nat → PS → Option (PS × Tr)
  | 0, _ => none
  | f + 1, st =>
    if startsP st = true then
      (if isP st wOpen = true then
        (match sumTw s f (takeP s (opensP st)) with
         | none => none
         | some (st1, t) => some (decP (needP s st1 wShut), t))
       else if st.next.kind = 48 then some (kindP s st 48, .mk wNumber ⟨#[]⟩ (numP st.next.text 4294967295) st.next.at_ [])
       else some (takeP s st, .mk st.next.text ⟨#[]⟩ 0 0 []))
    else if st.next.kind = 48 then some (failP st, .mk wNumber ⟨#[]⟩ (numP st.next.text 4294967295) st.next.at_ [])
    else some (failP st, .mk st.next.text ⟨#[]⟩ 0 0 [])
end
def wDot : ByteArray := ⟨#[46]⟩
def wBar : ByteArray := ⟨#[124]⟩
def wStar : ByteArray := ⟨#[42]⟩
def wQuest : ByteArray := ⟨#[63]⟩
def wEither : ByteArray := ⟨#[101, 105, 116, 104, 101, 114]⟩
def wRow : ByteArray := ⟨#[114, 111, 119]⟩
/-- one sign behind an ITEM, if it comes next -/
def sufStep (s : ByteArray) (w : ByteArray) (q : PS × Tr × Bool) : PS × Tr × Bool := if isP q.1 w = true then (takeP s q.1, .mk w ⟨#[]⟩ 0 0 [q.2.1], true) else q
def suf3 (s : ByteArray) (st : PS) (x : Tr) : PS × Tr × Bool := sufStep s wQuest (sufStep s wPlus (sufStep s wStar (st, x, false)))
def sufLp (s : ByteArray) : Nat → PS → Tr → Option (PS × Tr)
  | 0, _, _ => none
  | f + 1, st, x => if (suf3 s st x).2.2 = true then sufLp s f (suf3 s st x).1 (suf3 s st x).2.1 else some ((suf3 s st x).1, (suf3 s st x).2.1)
def moreP (st : PS) : Bool := decide (st.bad < 0) && (st.next.kind == 48) || isP st wDot || isP st wOpen
mutual
def eitherTw (s : ByteArray) : Nat → PS → Option (PS × Tr)
  | 0, _ => none
  | f + 1, st => eitherLp s f st []
def eitherLp (s : ByteArray) : Nat → PS → List Tr → Option (PS × Tr)
  | 0, _, _ => none
  | f + 1, st, kids => match rowTw s f st with
    | none => none
    | some (st1, r) => if isP st1 wBar = true then eitherLp s f (takeP s st1) (kids ++ [r]) else some (st1, .mk wEither ⟨#[]⟩ 0 0 (kids ++ [r]))
def rowTw (s : ByteArray) : Nat → PS → Option (PS × Tr)
  | 0, _ => none
  | f + 1, st => rowLp s f st []
def rowLp (s : ByteArray) : Nat → PS → List Tr → Option (PS × Tr)
  | 0, _, _ => none
  | f + 1, st, kids => match oneTw s f st with
    | none => none
    | some (st1, x) => match sufLp s f st1 x with
      | none => none
      | some (st2, x2) => if moreP st2 = true then rowLp s f st2 (kids ++ [x2]) else some (st2, .mk wRow ⟨#[]⟩ 0 0 (kids ++ [x2]))
def oneTw (s : ByteArray) : Nat → PS → Option (PS × Tr)
  | 0, _ => none
  | f + 1, st =>
    if isP st wDot = true then some (takeP s st, .mk wDot ⟨#[]⟩ 0 0 [])
    else if isP st wOpen = true then
      (match eitherTw s f (takeP s (opensP st)) with
       | none => none
       | some (st1, t) => some (decP (needP s st1 wShut), t))
    else some (kindP s st 48, .mk wNumber ⟨#[]⟩ (numP st.next.text 4294967295) st.next.at_ [])
end
/-- the three signs, one behind the other -/
def sufTo (s : ByteArray) (st : PS) (x : Tr) : Nat → PS × Tr × Bool
  | 0 => (st, x, false)
  | 1 => sufStep s wStar (st, x, false)
  | 2 => sufStep s wPlus (sufStep s wStar (st, x, false))
  | _ => suf3 s st x
def sufWord : Nat → ByteArray
  | 0 => wStar
  | 1 => wPlus
  | _ => wQuest
def wNot : ByteArray := ⟨#[110, 111, 116]⟩
def wBrack : ByteArray := ⟨#[91]⟩
def wBrack2 : ByteArray := ⟨#[93]⟩
def wNet : ByteArray := ⟨#[110, 101, 116]⟩
def wPath : ByteArray := ⟨#[112, 97, 116, 104]⟩
def wMarked : ByteArray := ⟨#[109, 97, 114, 107, 101, 100]⟩
def wIn : ByteArray := ⟨#[105, 110]⟩
def wLike : ByteArray := ⟨#[108, 105, 107, 101]⟩
def wEq : ByteArray := ⟨#[61]⟩
def wLess : ByteArray := ⟨#[60]⟩
def wOr : ByteArray := ⟨#[111, 114]⟩
def wAnd : ByteArray := ⟨#[97, 110, 100]⟩
def opW (lv : Nat) : ByteArray := if lv = 0 then wOr else wAnd
mutual
def condTw (s : ByteArray) : Nat → Nat → PS → Option (PS × Tr)
  | 0, _, _ => none
  | f + 1, lv, st =>
    if lv < 2 then
      (match condTw s f (lv + 1) st with
       | none => none
       | some (st1, t) => condLp s f lv st1 t)
    else if isP st wNot = true then
      (match condTw s f 2 (takeP s (opensP st)) with
       | none => none
       | some (st1, x) => some (decP st1, .mk wNot ⟨#[]⟩ 0 0 [x]))
    else if isP st wBrack = true then
      (match condTw s f 0 (takeP s (opensP st)) with
       | none => none
       | some (st1, x) => some (decP (needP s st1 wBrack2), x))
    else if isP st wNet = true then some (kindP s (needP s (takeP s st) wIn) 110, .mk wIn (needP s (takeP s st) wIn).next.text 0 (needP s (takeP s st) wIn).next.at_ [])
    else if isP st wPath = true then some (kindP s (needP s (takeP s st) wLike) 110, .mk wLike (needP s (takeP s st) wLike).next.text 0 (needP s (takeP s st) wLike).next.at_ [])
    else if isP st wMarked = true then some (kindP s (takeP s st) 48, .mk wMarked ⟨#[]⟩ (numP (takeP s st).next.text 4294967295) (takeP s st).next.at_ [])
    else if startsP st = false then some (failP st, .mk ⟨#[]⟩ ⟨#[]⟩ 0 0 [])
    else
      (match sumTw s f st with
       | none => none
       | some (st1, a) => match sumTw s f (needP s st1 (if isP st1 wEq = true then wEq else wLess)) with
         | none => none
         | some (st2, b) => some (st2, .mk (if isP st1 wEq = true then wEq else wLess) ⟨#[]⟩ 0 0 [a, b]))
def condLp (s : ByteArray) : Nat → Nat → PS → Tr → Option (PS × Tr)
  | 0, _, _, _ => none
  | f + 1, lv, st, t => if isP st (opW lv) = true then
      (match condTw s f (lv + 1) (takeP s st) with
       | none => none
       | some (st2, x) => condLp s f lv st2 (.mk (opW lv) ⟨#[]⟩ 0 0 [t, x]))
    else some (st, t)
end
def wBlock : ByteArray := ⟨#[98, 108, 111, 99, 107]⟩
def wBrace : ByteArray := ⟨#[123]⟩
def wBrace2 : ByteArray := ⟨#[125]⟩
def wSemi : ByteArray := ⟨#[59]⟩
def wIf : ByteArray := ⟨#[105, 102]⟩
def wThen : ByteArray := ⟨#[116, 104, 101, 110]⟩
def wElse : ByteArray := ⟨#[101, 108, 115, 101]⟩
def wMark : ByteArray := ⟨#[109, 97, 114, 107]⟩
def wUnmark : ByteArray := ⟨#[117, 110, 109, 97, 114, 107]⟩
def wPrepend : ByteArray := ⟨#[112, 114, 101, 112, 101, 110, 100]⟩
def wAccept : ByteArray := ⟨#[97, 99, 99, 101, 112, 116]⟩
def wReject : ByteArray := ⟨#[114, 101, 106, 101, 99, 116]⟩
def beginL : List ByteArray := [wAccept, wReject, wPref, wMed, wMark, wUnmark, wPrepend, wIf]
def beginsP (st : PS) : Bool := beginL.any (fun x => isP st x)
def eqB (a : ByteArray) (l : List UInt8) : Bool := a.toList == l
abbrev lPref : List UInt8 := [112, 114, 101, 102]
abbrev lMed : List UInt8 := [109, 101, 100]
abbrev lMark : List UInt8 := [109, 97, 114, 107]
abbrev lUnmark : List UInt8 := [117, 110, 109, 97, 114, 107]
abbrev lPrepend : List UInt8 := [112, 114, 101, 112, 101, 110, 100]
abbrev lIf : List UInt8 := [105, 102]
mutual
def blockTw (s : ByteArray) : Nat → PS → Option (PS × Tr)
  | 0, _ => none
  | f + 1, st => blockLp s f (lineP (needP s (if isP st wBrace = true then opensP st else st) wBrace)) []
def blockLp (s : ByteArray) : Nat → PS → List Tr → Option (PS × Tr)
  | 0, _, _ => none
  | f + 1, st, kids => if isP st wBrace2 = false ∧ st.bad < 0 then
      (match stmtTw s f st with
       | none => none
       | some (st1, x) => blockLp s f st1 (kids ++ [x]))
    else some (decP (lineP (needP s st wBrace2)), .mk wBlock ⟨#[]⟩ 0 0 kids)
def stmtTw (s : ByteArray) : Nat → PS → Option (PS × Tr)
  | 0, _ => none
  | f + 1, st => stmtRest s f (if beginsP st = true then st else failP st)
def stmtRest (s : ByteArray) : Nat → PS → Option (PS × Tr)
  | 0, _ => none
  | f + 1, st =>
    if eqB st.next.text lPref = true ∨ eqB st.next.text lMed = true then
      (match sumTw s f (needP s (takeP s st) wEq) with
       | none => none
       | some (st3, x) => some (needP s st3 wSemi, .mk st.next.text ⟨#[]⟩ 0 0 [x]))
    else if eqB st.next.text lMark = true ∨ eqB st.next.text lUnmark = true ∨ eqB st.next.text lPrepend = true then
      some (needP s (kindP s (takeP s st) 48) wSemi, .mk st.next.text ⟨#[]⟩ 0 0 [.mk wNumber ⟨#[]⟩ (numP (takeP s st).next.text 4294967295) (takeP s st).next.at_ []])
    else if eqB st.next.text lIf = true then
      (match condTw s f 0 (takeP s st) with
       | none => none
       | some (st2, c) => match blockTw s f (needP s st2 wThen) with
         | none => none
         | some (st3, b) => if isP st3 wElse = true then
             (match blockTw s f (takeP s st3) with
              | none => none
              | some (st4, x) => some (st4, .mk st.next.text ⟨#[]⟩ 0 0 [c, b, x]))
           else some (st3, .mk st.next.text ⟨#[]⟩ 0 0 [c, b]))
    else some (needP s (takeP s st) wSemi, .mk st.next.text ⟨#[]⟩ 0 0 [])
end
structure Rg where
  addr : Int
  len : Int
  lo : Int
  hi : Int
  loAt : Int
  hiAt : Int
def xBrace : ByteArray := ⟨#[123]⟩
def xBrace2 : ByteArray := ⟨#[125]⟩
def xComma : ByteArray := ⟨#[44]⟩
/-- one RANGE: the state behind it, the range -/
def rangeP (s : ByteArray) (st : PS) : PS × Rg :=
  if (kindP s st 47).bad < 0 ∧ (kindP s st 47).next.kind = 48 then
    (kindP s (kindP s (kindP s st 47) 48) 48, ⟨(prefR st.next.text).1, (prefR st.next.text).2.1, numP (kindP s st 47).next.text 4294967295, numP (kindP s (kindP s st 47) 48).next.text 4294967295, (kindP s st 47).next.at_, (kindP s (kindP s st 47) 48).next.at_⟩)
  else (kindP s st 47, ⟨(prefR st.next.text).1, (prefR st.next.text).2.1, (prefR st.next.text).2.1, (prefR st.next.text).2.1, -1, -1⟩)
def rangesLp (s : ByteArray) : Nat → Bool → PS → List Rg → Option (PS × List Rg)
  | 0, _, _, _ => none
  | f + 1, more, st, l => if more = true ∧ st.bad < 0 then
      (if isP (rangeP s st).1 xComma = true then rangesLp s f true (takeP s (rangeP s st).1) (l ++ [(rangeP s st).2])
       else rangesLp s f false (rangeP s st).1 (l ++ [(rangeP s st).2]))
    else some (needP s st xBrace2, l)
def rangesTw (s : ByteArray) (f : Nat) (st : PS) : Option (PS × List Rg) := rangesLp s f true (needP s st xBrace) []
def wWay : ByteArray := ⟨#[119, 97, 121]⟩
def wSet : ByteArray := ⟨#[115, 101, 116]⟩
structure Df where
  name : Tok
  isWay : Bool
  ranges : List Rg
  way : Tr
def trZ : Tr := .mk ⟨#[]⟩ ⟨#[]⟩ 0 0 []
def defTw (s : ByteArray) (f : Nat) (st : PS) : Option (PS × Df) :=
  if isP st wWay = true then
    (match eitherTw s f (needP s (kindP s (takeP s st) 110) wEq) with
     | none => none
     | some (st4, t) => some (needP s st4 wSemi, ⟨(takeP s st).next, true, [], t⟩))
  else
    (match rangesTw s f (needP s (kindP s (takeP s st) 110) wEq) with
     | none => none
     | some (st4, l) => some (needP s st4 wSemi, ⟨(takeP s st).next, false, l, trZ⟩))
mutual
def trSize : Tr → Nat
  | .mk _ _ _ _ kids => 1 + trSizes kids
def trSizes : List Tr → Nat
  | [] => 0
  | t :: ts => trSize t + trSizes ts
end
abbrev lNumber : List UInt8 := [110, 117, 109, 98, 101, 114]
mutual
def wayNum : Tr → Int
  | .mk op _ n a kids => if (op.toList == lNumber) = true ∧ (n < 1 ∨ 65535 < n) then a else wayNums kids
def wayNums : List Tr → Int
  | [] => -1
  | t :: ts => if 0 ≤ wayNum t then wayNum t else wayNums ts
end
abbrev lMarked : List UInt8 := [109, 97, 114, 107, 101, 100]
def kid0N : List Tr → Int
  | .mk _ _ n _ _ :: _ => n
  | [] => 0
def kid0A : List Tr → Int
  | .mk _ _ _ a _ :: _ => a
  | [] => 0
mutual
def badNum : Tr → Int
  | .mk op _ n a kids =>
    if (op.toList == lMarked) = true ∧ 65535 < n then a
    else if ((op.toList == lMark) = true ∨ (op.toList == lUnmark) = true) ∧ 65535 < kid0N kids then kid0A kids
    else if (op.toList == lPrepend) = true ∧ (kid0N kids < 1 ∨ 65535 < kid0N kids) then kid0A kids
    else badNums kids
def badNums : List Tr → Int
  | [] => -1
  | t :: ts => if 0 ≤ badNum t then badNum t else badNums ts
end
mutual
/-- a tree whose marks, unmarks and prepends have a kid -/
def WfTr : Tr → Prop
  | .mk op _ _ _ kids => (((op.toList == lMark) || (op.toList == lUnmark) || (op.toList == lPrepend)) = true → 0 < kids.length) ∧ WfTrs kids
def WfTrs : List Tr → Prop
  | [] => True
  | t :: ts => WfTr t ∧ WfTrs ts
end
def findI (name : ByteArray) (way : Bool) : List Df → Nat → Int
  | [], _ => -1
  | d :: ds, i => if (d.name.text.toList == name.toList) = true ∧ (d.isWay == way) = true then (i : Int) else findI name way ds (i + 1)
abbrev lIn : List UInt8 := [105, 110]
abbrev lLike : List UInt8 := [108, 105, 107, 101]
mutual
def strayT (ds : List Df) : Tr → Int
  | .mk op text _ a kids => if ((op.toList == lIn) = true ∨ (op.toList == lLike) = true) ∧ findI text (op.toList == lLike) ds 0 < 0 then a else strays ds kids
def strays (ds : List Df) : List Tr → Int
  | [] => -1
  | t :: ts => if 0 ≤ strayT ds t then strayT ds t else strays ds ts
end
def seenB (l : List Df) (x : ByteArray) : Bool := l.any (fun d => d.name.text.toList == x.toList)
/-- the first name that is defined again, else the first stray one -/
def dups (ds : List Df) (body : Tr) : Nat → Nat → Int
  | 0, _ => strayT ds body
  | f + 1, i => if h : i < ds.length then (if seenB (ds.take i) ds[i].name.text = true then (ds[i].name.at_ : Int) else dups ds body f (i + 1)) else strayT ds body
def namesP (ds : List Df) (body : Tr) : Int := dups ds body ds.length 0
def rgBad (r : Rg) : Option Int := if r.lo < r.len ∨ 32 < r.lo then some r.loAt else if r.hi < r.lo ∨ 32 < r.hi then some r.hiAt else none
def rgsBad : List Rg → Option Int
  | [] => none
  | r :: rs => match rgBad r with
    | some x => some x
    | none => rgsBad rs
def dfBad (d : Df) : Option Int := if d.isWay = true then (if 0 ≤ wayNum d.way then some (wayNum d.way) else none) else rgsBad d.ranges
def dfsBad (body : Tr) : List Df → Int
  | [] => badNum body
  | d :: ds => match dfBad d with
    | some x => x
    | none => dfsBad body ds
def numbersP (ds : List Df) (body : Tr) : Int := dfsBad body ds
/-! ## Compile -/
def ps0 (s : ByteArray) : PS := ⟨(cutP s 0).1, (cutP s 0).2, [], [], -1, 0⟩
def defsLp (s : ByteArray) (F : Nat) : Nat → PS → List Df → Option (PS × List Df)
  | 0, _, _ => none
  | k + 1, st, l => if (isP st wSet || isP st wWay) = true then
      (match defTw s F (if l.length = 8 then failP st else st) with
       | none => none
       | some (st1, d) => defsLp s F k st1 (l ++ [d]))
    else some (st, l)
def bodyLp (s : ByteArray) (F : Nat) : Nat → Bool → PS → List Tr → Option (PS × List Tr)
  | 0, _, _, _ => none
  | k + 1, more, st, l => if more = true ∧ st.bad < 0 then
      (match stmtTw s F st with
       | none => none
       | some (st1, x) => bodyLp s F k (st1.next.kind != 46) st1 (l ++ [x]))
    else some (st, l)
def compP (s : ByteArray) (F : Nat) : Option (PS × List Df × List Tr) :=
  match defsLp s F F (ps0 s) [] with
  | none => none
  | some (st, ds) => match bodyLp s F F true st [] with
    | none => none
    | some (st1, ks) => some (st1, ds, ks)
end Go.Proofs.YtgdeeodifnegiaaGreatDoor.rf
