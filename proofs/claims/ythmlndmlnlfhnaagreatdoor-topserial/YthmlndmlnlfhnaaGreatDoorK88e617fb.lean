import Derived.Lib.ItoaNum
import Derived.Lib.AtoiAll
import Derived.Lib.AtoiTie
import Derived.Lib.SlTrimSet
import Derived.Lib.Join
import Derived.Test.YthmlndmlnlfhnaaGreatDoorProg
import Derived.WalkLawsBesides
import Derived.BigQuiet
import Derived.Deep.QuietTactic
import Derived.StillTailTactics
import Derived.Test.YthmlndmlnlfhnaaGreatDoorKb97ef3f3
import Derived.Test.YthmlndmlnlfhnaaGreatDoorKc04492b9
set_option maxRecDepth 100000
set_option maxHeartbeats 16000000
namespace Go.Proofs.YthmlndmlnlfhnaaGreatDoor
open Go.Lib (hid)
open Go.RowKit
abbrev Bs:=List UInt8
structure PS where
 rest:Bs
 bad:Bool
def spB (b:UInt8):Bool:=[32,10].contains b
def jau (l:Bs):Bs:=l.dropWhile spB
def digB (b:UInt8):Bool:=decide (48≤b.toNat) && decide (b.toNat≤57)
def jcg (p:PS):Bs × PS:=((jau p.rest).takeWhile ja5,⟨(jau p.rest).dropWhile ja5,p.bad⟩)
def jat (sym:Bs) (p:PS):Bool × PS:=(sym.isPrefixOf (jau p.rest),⟨if sym.isPrefixOf (jau p.rest) then (jau p.rest).drop sym.length else jau p.rest,p.bad⟩)
def jb4 (sym:Bs) (p:PS):PS:=⟨(jat sym p).2.rest,p.bad || !(jat sym p).1⟩
def jm8 (l:Bs):Nat:=if [45].isPrefixOf l then 1+((l.drop 1).takeWhile digB).length else (l.takeWhile digB).length
def numV (s:Bs):Option Int:=match Lib.atoiAll s with
 | .ok v=>if Lib.itoa v=s then some v else none
 | _=>none
def jaw (p:PS):Int × PS:=match numV ((jau p.rest).take (jm8 (jau p.rest))) with
 | some v=>(v,⟨(jau p.rest).drop (jm8 (jau p.rest)),p.bad⟩)
 | none=>(0,⟨(jau p.rest).drop (jm8 (jau p.rest)),true⟩)
def jcx (word:Bs) (p:PS):Bool × PS:=(decide ((jcg p).1=word),⟨(jcg p).2.rest,p.bad || (decide ((jcg p).1 ≠ []) && decide ((jcg p).1≠word))⟩)
def jdl (p:PS):(Int × Int) × PS :=
 if (jat [46,46] (jaw p).2).1 then
  (((jaw p).1,(jaw (jat [46,46] (jaw p).2).2).1),⟨(jaw (jat [46,46] (jaw p).2).2).2.rest,(jaw (jat [46,46] (jaw p).2).2).2.bad || decide ((jaw (jat [46,46] (jaw p).2).2).1≤(jaw p).1)⟩)
 else (((jaw p).1,(jaw p).1),(jat [46,46] (jaw p).2).2)
def sepP {α:Type} (item:PS → α × PS) (sym:Bs):Nat→PS→List α × PS
 | 0,p=>([],p)
 | n+1,p=>if (jat sym p).1 then ((item (jat sym p).2).1 :: (sepP item sym n (item (jat sym p).2).2).1,(sepP item sym n (item (jat sym p).2).2).2) else ([],(jat sym p).2)
def jvy {α:Type} (item:PS → α × PS) (sym:Bs) (p:PS):List α × PS :=
 ((item p).1 :: (sepP item sym ((item p).2.rest.length+1) (item p).2).1,(sepP item sym ((item p).2.rest.length+1) (item p).2).2)
def jh8:PS→List (Int × Int) × PS:=jvy jdl [124]
def jfr (p:PS):CellD × PS :=
 if (jat [42] p).1 then ((false,[]),(jat [42] p).2)
 else (((jcx [110,111,116] (jat [42] p).2).1,(jh8 (jcx [110,111,116] (jat [42] p).2).2).1),(jh8 (jcx [110,111,116] (jat [42] p).2).2).2)
def jhd:PS→List CellD × PS:=jvy jfr [44]
def jjv (p:PS):RuleD × PS :=
 (((jhd p).1,(jaw (jb4 [61,62] (jhd p).2)).1),jb4 [59] (jaw (jb4 [61,62] (jhd p).2)).2)
def jfi:Nat→PS→List RuleD × PS
 | 0,p=>([],p)
 | n+1,p=>if p.bad then ([],p) else if (jat [125] p).1 then ([],(jat [125] p).2)
  else ((jjv (jat [125] p).2).1 :: (jfi n (jjv (jat [125] p).2).2).1,(jfi n (jjv (jat [125] p).2).2).2)
def polW:List Bs:=[[117,110,105,113,117,101],[97,110,121],[102,105,114,115,116],[108,101,97,115,116],[109,111,115,116],[115,117,109],[99,111,117,110,116]]
def polT (n:Int):Bs:=polW.getD (n.toNat-1) []
def polP (p:PS):Int × PS:=match polW.findIdx? (· == (jcg p).1) with
 | some k=>((k:Int)+1,(jcg p).2)
 | none=>(0,⟨(jcg p).2.rest,true⟩)
def strP (p:PS):ByteArray × PS:=(⟨(jcg p).1.toArray⟩,(jcg p).2)
def jio:PS→List ByteArray × PS:=jvy strP [44]
abbrev DomD:=ByteArray × Int × Int
def domP (p:PS):DomD × PS :=
 (((strP p).1,(jaw (strP p).2).1,(jaw (jb4 [46,46] (jaw (strP p).2).2)).1),(jaw (jb4 [46,46] (jaw (strP p).2).2)).2)
def jyq (p:PS):TabD × PS :=
 let a:=strP p
 let b:=polP a.2
 let c:=jcx [99,111,109,112,108,101,116,101] b.2
 let i:=jio (jb4 [40] c.2)
 (⟨a.1,b.1,c.1,i.1,[]⟩,jb4 [123] (jb4 [41] i.2))
def jmr (p:PS):Nat:=if p.bad then 0 else p.rest.length+1
def tabP (p:PS):TabD × PS :=
 let h:=jyq p
 let r:=jfi (jmr h.2+1) h.2
 (⟨h.1.name,h.1.pol,h.1.comp,h.1.ins,r.1⟩,r.2)
def jni (p:PS):Bool:=!p.bad && (jau p.rest).isEmpty
def jef (d:DomD):Bool:=jdr d.1 && decide (-1000000≤d.2.1) && decide (d.2.1≤d.2.2) && decide (d.2.2≤1000000)
def jnc:DomD:=(⟨#[]⟩,0,0)
def je1:TabD:=⟨⟨#[]⟩,0,false,[],[]⟩
def jbx:Bs:=[100,111,109,97,105,110]
def jfj:Bs:=[116,97,98,108,101]
def jdz (s:Bs):DomD × TabD × Bool × Int :=
 if 2000<s.length then (jnc,je1,false,5)
 else if (jcg ⟨s,false⟩).1=jbx∧jni (domP (jcg ⟨s,false⟩).2).2=true∧jef (domP (jcg ⟨s,false⟩).2).1=true then ((domP (jcg ⟨s,false⟩).2).1,je1,false,0)
 else if (jcg ⟨s,false⟩).1=jfj∧jni (tabP (jcg ⟨s,false⟩).2).2=true∧jbd (tabP (jcg ⟨s,false⟩).2).1=true then (jnc,(tabP (jcg ⟨s,false⟩).2).1,true,0)
 else (jnc,je1,false,1)
def ji8 (a b:Int):Bs:=Lib.itoa a ++ [46,46] ++ Lib.itoa b
def je9 (r:Int × Int):Bs:=if r.1<r.2 then ji8 r.1 r.2 else Lib.itoa r.1
def jih (c:CellD):Bs:=if c.2.length=0 then [42] else (if c.1 then [110,111,116,32] else []) ++ Lib.join (c.2.map je9) [124]
def jkq (r:RuleD):Bs:=Lib.join (r.1.map jih) [44] ++ [32,61,62,32] ++ Lib.itoa r.2
def juc (t:TabD):Bs:=Lib.join ([jfj,t.name.data.toList,polT t.pol] ++ (if t.comp then [[99,111,109,112,108,101,116,101]] else []) ++ [[40] ++ Lib.join (t.ins.map (·.data.toList)) [44] ++ [41],[123,10]]) [32]
def jmd (t:TabD):Bs:=Lib.join ([juc t] ++ (t.rules.map fun r=>[32,32] ++ jkq r ++ [59,10]) ++ [[125,10]]) []
def domT (d:DomD):Bs:=jbx ++ [32] ++ d.1.data.toList ++ [32] ++ ji8 d.2.1 d.2.2 ++ [10]
open Go.Lib (hid)
structure BookD where
 doms:List DomD
 tabs:List TabD
def jdj (l:List DomD) (s:ByteArray):Option DomD:=l.find? fun d=>jap d.1 s
def jb3 (l:List TabD) (s:ByteArray):Option TabD:=l.find? fun t=>jap t.name s
def allO (b:BookD) (s:ByteArray):Option (Int × Int) :=
 match jdj b.doms s with
 | some d=>some (d.2.1,d.2.2)
 | none=>(jb3 b.tabs s).map jgq
def inBd (n:Int):Bool:=decide (-1000000≤n) && decide (n≤1000000)
def rngO (b:BookD) (s:ByteArray):Option (Int × Int) :=
 match allO b s with
 | some r=>if inBd r.1 && inBd r.2 then some r else none
 | none=>none
def je0 (b:BookD) (l:List ByteArray):Bool:=l.all fun s=>(rngO b s).isSome
def boxL (b:BookD) (l:List ByteArray):BoxD:=l.map fun s=>[(rngO b s).getD (0,0)]
def boxV (b:BookD) (t:TabD):BoxD × Bool:=if je0 b t.ins then (boxL b t.ins,true) else ([],false)
def hasN (l:List ByteArray) (s:ByteArray):Bool:=l.any (jap s)
def jq5 (wait:List ByteArray) (t:TabD):Bool:=t.ins.any (hasN wait)
def jd6 (wait:List ByteArray) (t:TabD):Bool:=hasN wait t.name && !jq5 wait t
def jke (l:List ByteArray) (s:ByteArray):List ByteArray:=l.filter fun x=>!jap x s
def jgx (ts:List TabD):Nat→List ByteArray→Option (List ByteArray)
 | 0,_=>some []
 | n+1,wait=>match ts.find? (jd6 wait) with
  | none=>none
  | some t=>(jgx ts n (jke wait t.name)).map (t.name :: ·)
def ja3 (ts:List TabD):List ByteArray:=ts.map (·.name)
def je4 (ts:List TabD):Option (List ByteArray):=jgx ts ts.length (ja3 ts)
def leS (a b:ByteArray):Bool:=Op.bytesLess a.toList b.toList || a.toList == b.toList
def jdc {α:Type} (f:α→ByteArray):List α→Bool
 | []=>true
 | [_]=>true
 | a :: b :: l=>!leS (f b) (f a) && jdc f (b :: l)
def jda (l:List DomD):Bool:=l.all jef && jdc (·.1) l
def jfg (b:BookD):Bool:=b.tabs.all jbd && jdc (·.name) b.tabs && b.tabs.all fun t=>(jdj b.doms t.name).isNone
def badT (b:BookD) (t:TabD):Option (List Int × Int) :=
 if (jct t (boxL b t.ins)).2 then some ((jct t (boxL b t.ins)).1,8)
 else if t.comp && (gapV t (boxL b t.ins)).2 then some ((gapV t (boxL b t.ins)).1,7)
 else none
def noS:ByteArray:=⟨#[]⟩
def ja6 (b:BookD):ByteArray × List Int × Int :=
 if 4<b.doms.length∨4<b.tabs.length then (noS,[],11)
 else if jda b.doms=false∨jfg b=false then (noS,[],1)
 else match b.tabs.find? (fun t=>!je0 b t.ins) with
  | some t=>(t.name,[],3)
  | none=>match je4 b.tabs with
   | none=>(noS,[],6)
   | some _=>match b.tabs.find? (fun t=>(badT b t).isSome) with
    | some t=>(t.name,(badT b t).getD ([],0))
    | none=>(noS,[],0)
abbrev AnsD:=ByteArray × Bool × Int
def jck (k:ByteArray→Option AnsD) (s:ByteArray):Bool:=((k s).map (·.2.1)).getD false
def numA (k:ByteArray→Option AnsD) (s:ByteArray):Int:=((k s).map (·.2.2)).getD 0
def jgl (k:ByteArray→Option AnsD) (t:TabD):AnsD :=
 if t.ins.all (jck k) then (t.name,(jb5 t (t.ins.map (numA k))).2.1,(jb5 t (t.ins.map (numA k))).1) else (t.name,false,0)
def putA (k:ByteArray→Option AnsD) (s:ByteArray) (a:AnsD):ByteArray→Option AnsD:=fun x=>if jap x s then some a else k x
def domK:List DomD→List Int→(ByteArray→Option AnsD)→ByteArray→Option AnsD
 | d :: l,n :: m,k=>domK l m (putA k d.1 (d.1,true,n))
 | _,_,k=>k
def askK (ts:List TabD):List ByteArray→(ByteArray→Option AnsD)→ByteArray→Option AnsD
 | [],k=>k
 | s :: l,k=>askK ts l (putA k s (jgl k ((jb3 ts s).getD ⟨noS,0,false,[],[]⟩)))
def jdf:List DomD→List Int→Bool
 | d :: l,n :: m=>decide (d.2.1≤n) && decide (n≤d.2.2) && jdf l m
 | _,_=>true
def askR (b:BookD) (l:List Int):ByteArray→Option AnsD:=askK b.tabs ((je4 b.tabs).getD []) (domK b.doms l fun _=>none)
def jjg:AnsD:=(noS,false,0)
def askV (b:BookD) (l:List Int):List AnsD × Int :=
 if (ja6 b).2.2≠0 then ([],(ja6 b).2.2)
 else if l.length≠b.doms.length then ([],1)
 else if jdf b.doms l=false then ([],2)
 else (b.tabs.map fun t=>(askR b l t.name).getD jjg,0)
theorem jeo {s t:ByteArray}:jap s t=true↔s=t:=by
 unfold jap;rw [ByteArray.toList_eq,ByteArray.toList_eq];constructor
 ·intro h;have h':s.data.toList=t.data.toList:=by simpa using h
  cases s;cases t;simp at h';rw [h']
 ·intro h;subst h;simp
theorem jdk (s:ByteArray):jap s s=true:=jeo.2 rfl
theorem jek {s t:ByteArray}:jap s t=false↔s≠t:=by rw [← Bool.not_eq_true,jeo]
theorem jej {l:List ByteArray} {s:ByteArray}:hasN l s=true↔s∈l:=by
 unfold hasN;rw [List.any_eq_true];exact ⟨fun ⟨x,h1,h2⟩=>by rw [jeo.1 h2];exact h1,fun h=>⟨s,h,jdk s⟩⟩
theorem jdt {l:List ByteArray} {s:ByteArray}:hasN l s=false↔s ∉ l:=by rw [← Bool.not_eq_true,jej]
theorem jeg {l:List ByteArray} {s x:ByteArray}:x∈jke l s↔x∈l∧x≠s:=by
 unfold jke;rw [List.mem_filter];simp [jek]
theorem jij {l:List ByteArray} (s:ByteArray) (h:l.Nodup):(jke l s).Nodup:=h.filter _
theorem jhg {l:List ByteArray} {s:ByteArray} (h:l.Nodup) (hs:s∈l):(jke l s).length+1=l.length:=by
 induction l with
 | nil=>simp at hs
 | cons a l ih =>
  rw [List.nodup_cons] at h;by_cases e:a=s
  ·subst e;have:jke (a :: l) a=l:=by
    unfold jke;rw [List.filter_cons,jdk];simp only [Bool.not_true,Bool.false_eq_true,if_false];rw [List.filter_eq_self];intro x hx;have:x≠a:=fun e=>h.1 (e ▸ hx)
    rw [jek.2 this];rfl
   rw [this];simp
  ·have hs':s∈l:=by
    rcases List.mem_cons.1 hs with h | h
    ·exact absurd h.symm e
    ·exact h
   have:=ih h.2 hs'
   have e2:jke (a :: l) s=a :: jke l s:=by
    unfold jke;rw [List.filter_cons,jek.2 e];rfl
   rw [e2];simp;omega
theorem jd8 {l:List TabD} {s:ByteArray} {t:TabD} (h:jb3 l s=some t):t∈l∧t.name=s:=by
 have h1:=List.mem_of_find?_eq_some h;have h2:=List.find?_some h;exact ⟨h1,jeo.1 h2⟩
theorem jwz {l:List TabD} {s:ByteArray}:jb3 l s=none↔s ∉ ja3 l:=by
 unfold jb3 ja3;rw [List.find?_eq_none];simp only [List.mem_map,not_exists,not_and];exact ⟨fun h t ht e=>h t ht (jeo.2 e),fun h t ht e=>h t ht (jeo.1 e)⟩
theorem jru {l:List TabD} (h:(ja3 l).Nodup) {t u:TabD} (ht:t∈l) (hu:u∈l) (e:t.name=u.name):t=u:=by
 induction l with
 | nil=>simp at ht
 | cons a l ih =>
  simp only [ja3,List.map_cons,List.nodup_cons] at h;rcases List.mem_cons.1 ht with e1 | ht <;> rcases List.mem_cons.1 hu with e2 | hu
  ·rw [e1,e2]
  ·exact absurd (List.mem_map.2 ⟨u,hu,by rw [← e,e1]⟩) h.1
  ·exact absurd (List.mem_map.2 ⟨t,ht,by rw [e,e2]⟩) h.1
  ·exact ih h.2 ht hu
theorem jp5 {l:List TabD} (h:(ja3 l).Nodup) {t:TabD} (ht:t∈l):jb3 l t.name=some t:=by
 cases hf:jb3 l t.name with
 | none=>exact absurd (List.mem_map.2 ⟨t,ht,rfl⟩) (jwz.1 hf)
 | some u =>
  obtain ⟨h1,h2⟩:=jd8 hf;rw [jru h h1 ht h2]
inductive Placed (ts:List TabD):List ByteArray→List ByteArray→Prop
 | nil:Placed ts [] []
 | cons {wait l:List ByteArray} {t:TabD}:t∈ts→t.name∈wait→(∀ s,s∈t.ins→s ∉ wait)→Placed ts (jke wait t.name) l→Placed ts wait (t.name :: l)
theorem jnv {wait:List ByteArray} {t:TabD}:jd6 wait t=true↔t.name∈wait∧∀ s,s∈t.ins→s ∉ wait:=by
 unfold jd6 jq5;rw [Bool.and_eq_true,jej,Bool.not_eq_true',List.any_eq_false];constructor
 ·rintro ⟨h1,h2⟩;exact ⟨h1,fun s hs=>jdt.1 (by simpa using h2 s hs)⟩
 ·rintro ⟨h1,h2⟩;exact ⟨h1,fun s hs=>by rw [jdt.2 (h2 s hs)];simp⟩
theorem jy7 {ts:List TabD}:∀ {n:Nat} {wait l:List ByteArray},wait.Nodup→wait.length=n→jgx ts n wait=some l→Placed ts wait l:=by
 intro n;induction n with
 | zero =>
  intro wait l _ hl h;obtain rfl:=List.length_eq_zero_iff.1 hl;simp [jgx] at h;subst h;exact .nil
 | succ n ih =>
  intro wait l hn hl h;simp only [jgx] at h;cases hf:ts.find? (jd6 wait) with
  | none=>rw [hf] at h;cases h
  | some t =>
   rw [hf] at h;simp only [Option.map_eq_some_iff] at h;obtain ⟨l',h1,rfl⟩:=h;obtain ⟨r1,r2⟩:=jnv.1 (List.find?_some hf);have hd:=jhg hn r1;exact .cons (List.mem_of_find?_eq_some hf) r1 r2 (ih (jij _ hn) (by omega) h1)
theorem Placed.length {ts:List TabD} {wait l:List ByteArray} (h:Placed ts wait l) (hn:wait.Nodup):l.length=wait.length:=by
 induction h with
 | nil=>rfl
 | cons _ h2 _ _ ih =>
  have:=jhg hn h2
  have:=ih (jij _ hn)
  simp;omega
theorem Placed.mem {ts:List TabD} {wait l:List ByteArray} (h:Placed ts wait l):∀ x,x∈l↔x∈wait:=by
 induction h with
 | nil=>intro x;simp
 | cons _ h2 _ _ ih =>
  rename_i wait l t _ _ _
  intro x;rw [List.mem_cons,ih,jeg];constructor
  ·rintro (rfl | h)
   ·exact h2
   ·exact h.1
  ·intro h;by_cases e:x=t.name
   ·exact .inl e
   ·exact .inr ⟨h,e⟩
theorem jf8 {ts:List TabD} {l:List ByteArray} (hn:(ja3 ts).Nodup) (h:je4 ts=some l):Placed ts (ja3 ts) l:=jy7 hn (by simp [ja3]) h
theorem jel (a:List UInt8):Op.bytesLess a a=false:=by
 induction a with
 | nil=>rfl
 | cons x a ih=>simp [Op.bytesLess,ih]
theorem jhy {a:List UInt8}:∀ {b c:List UInt8},Op.bytesLess a b=true→Op.bytesLess b c=true→Op.bytesLess a c=true:=by
 induction a with
 | nil =>
  intro b c h1 h2;cases c with
  | nil=>cases b <;> simp [Op.bytesLess] at h2
  | cons z c=>rfl
 | cons x a ih =>
  intro b c h1 h2;cases b with
  | nil=>simp [Op.bytesLess] at h1
  | cons y b =>
   cases c with
   | nil=>simp [Op.bytesLess] at h2
   | cons z c =>
    simp only [Op.bytesLess,Bool.or_eq_true,Bool.and_eq_true,decide_eq_true_eq,beq_iff_eq] at h1 h2 ⊢;rcases h1 with h1 | ⟨rfl,h1⟩ <;> rcases h2 with h2 | ⟨rfl,h2⟩
    ·exact .inl (UInt8.lt_trans h1 h2)
    ·exact .inl h1
    ·exact .inl h2
    ·exact .inr ⟨rfl,ih h1 h2⟩
theorem jng {a:List UInt8}:∀ {b:List UInt8},Op.bytesLess a b=false→a≠b→Op.bytesLess b a=true:=by
 induction a with
 | nil =>
  intro b h1 h2;cases b with
  | nil=>exact absurd rfl h2
  | cons y b=>simp [Op.bytesLess] at h1
 | cons x a ih =>
  intro b h1 h2;cases b with
  | nil=>rfl
  | cons y b =>
   simp only [Op.bytesLess,Bool.or_eq_false_iff,Bool.and_eq_false_iff,decide_eq_false_iff_not,beq_eq_false_iff_ne] at h1;simp only [Op.bytesLess,Bool.or_eq_true,Bool.and_eq_true,decide_eq_true_eq,beq_iff_eq];by_cases e:x=y
   ·subst e;right
    refine ⟨rfl,ih ?_ (fun e=>h2 (by rw [e]))⟩;rcases h1.2 with h | h
    ·exact absurd rfl h
    ·exact h
   ·left
    have:=h1.1
    rcases Nat.lt_trichotomy x.toNat y.toNat with h | h | h
    ·exact absurd h this
    ·exact absurd (UInt8.toNat_inj.1 h) e
    ·exact h
theorem jum {a b:ByteArray}:leS a b=false↔Op.bytesLess b.toList a.toList=true:=by
 unfold leS;rw [Bool.or_eq_false_iff,beq_eq_false_iff_ne];constructor
 ·rintro ⟨h1,h2⟩;exact jng h1 h2
 ·intro h;refine ⟨?_,fun e=>?_⟩
  ·cases hh:Op.bytesLess a.toList b.toList
   ·rfl
   ·have:=jhy hh h;rw [jel] at this;cases this
  ·rw [e,jel] at h;cases h
theorem jqq {α:Type} {f:α→ByteArray} {l:List α}:∀ {a:α},jdc f (a :: l)=true→∀ x,x∈l→Op.bytesLess (f a).toList (f x).toList=true:=by
 induction l with
 | nil=>intro a _ x hx;simp at hx
 | cons b l ih =>
  intro a h x hx;simp only [jdc,Bool.and_eq_true,Bool.not_eq_true'] at h;have h1:=jum.1 h.1;rcases List.mem_cons.1 hx with rfl | hx
  ·exact h1
  ·exact jhy h1 (ih h.2 x hx)
theorem jqs {α:Type} {f:α→ByteArray} {a:α} {l:List α} (h:jdc f (a :: l)=true):jdc f l=true:=by
 cases l with
 | nil=>rfl
 | cons b l=>simp only [jdc,Bool.and_eq_true] at h;exact h.2
theorem jfo {α:Type} {f:α→ByteArray} {l:List α} (h:jdc f l=true):(l.map f).Nodup:=by
 induction l with
 | nil=>exact List.nodup_nil
 | cons a l ih =>
  rw [List.map_cons,List.nodup_cons];refine ⟨fun hx=>?_,ih (jqs h)⟩;obtain ⟨x,hx,e⟩:=List.mem_map.1 hx;have:=jqq h x hx
  rw [e,jel] at this;cases this
open Go.Lib (hid)
theorem jfx {b:BookD} (h:(ja6 b).2.2=0) :
  b.doms.length≤4∧b.tabs.length≤4∧jda b.doms=true∧jfg b=true∧(∀ t,t∈b.tabs→je0 b t.ins=true)∧(∃ l,je4 b.tabs=some l)∧∀ t,t∈b.tabs→badT b t=none:=by
 unfold ja6 at h;split at h
 ·cases h
 ·rename_i h1
  split at h
  ·cases h
  ·rename_i h2
   split at h
   ·cases h
   ·rename_i h3
    split at h
    ·cases h
    ·rename_i l h4
     split at h
     ·rename_i t h5
      have hb:=List.find?_some h5;cases hbt:badT b t with
      | none=>rw [hbt] at hb;cases hb
      | some r =>
       rw [hbt] at h;unfold badT at hbt;split at hbt
       ·injection hbt with hbt;subst hbt;cases h
       ·split at hbt
        ·injection hbt with hbt;subst hbt;cases h
        ·cases hbt
     ·rename_i h5
      refine ⟨by omega,by omega,by simpa using fun e=>h2 (.inl e),by simpa using fun e=>h2 (.inr e),fun t ht=>?_,⟨l,h4⟩,fun t ht=>?_⟩
      ·have:=List.find?_eq_none.1 h3 t ht
       simpa using this
      ·have:=List.find?_eq_none.1 h5 t ht
       simpa using this
theorem jg6 {b:BookD} (h:jfg b=true) {t:TabD} (ht:t∈b.tabs):jbd t=true:=by
 unfold jfg at h;simp only [Bool.and_eq_true] at h;exact List.all_eq_true.1 h.1.1 t ht
theorem jin {b:BookD} (h:jfg b=true):(ja3 b.tabs).Nodup:=by
 unfold jfg at h;simp only [Bool.and_eq_true] at h;exact jfo h.1.2
theorem jgn {l:List DomD} {s:ByteArray} {d:DomD} (h:jdj l s=some d):d∈l∧d.1=s :=
 ⟨List.mem_of_find?_eq_some h,jeo.1 (List.find?_some (p:=fun d:DomD=>jap d.1 s) h)⟩
theorem jof {l:List DomD} {s:ByteArray} (h:jdj l s=none) {d:DomD} (hd:d∈l):d.1≠s:=by
 have:=List.find?_eq_none.1 h d hd
 exact fun e=>this (jeo.2 e)
def ansL (b:BookD) (l:List Int):List AnsD:=b.tabs.map fun t=>(askR b l t.name).getD jjg
theorem jsj {ts:List TabD} (hn:(ja3 ts).Nodup) {l:List ByteArray} (h:je4 ts=some l):l.length=ts.length:=by
 rw [(jf8 hn h).length hn];simp [ja3]
open Go.Lib (hid)
open Go.RowKit
theorem jg1:(Tryz.prog.info? 87).map (fun i=>(i.zero,i.size,i.bytes))=some (some (.agg #[.int .i64 0,.int .i64 0]),2,16):=by kernel_rfl
theorem jmb (a b:Int) (w:World) :
  Calls Tryz.prog 210 #[.agg #[.int .i64 a,.int .i64 b]] w fun e w'=>e = .returned (.bool (decide (b<a)))∧Below w.heap.size w w':=by
 go_enter Tryz.func210,Tryz.ntmps210
 go_wp2;go_ret;exact ⟨rfl,(Below.refl _ _).alloc (Nat.le_refl _) _⟩
theorem jca (l:List (Int × Int)) (v:Value) (n:Int) (w:World) (h:Sl Enc.rng w (Old w) l v) :
  Calls Tryz.prog 136 #[v,.int .i64 n] w fun e w'=>e = .returned (.bool (hasB l n))∧Below w.heap.size w w':=by
 have H:=hid h;obtain ⟨A,c,rfl,hc1,hc2,-⟩:=h;unfold maxLen at hc2;go_enter Tryz.func136,Tryz.ntmps136
 go_wp2;go_loopw [9] (fun i wr=>∃ k:Nat,k≤l.length∧i = .int .i64 k∧Hid (hasB (l.take k) n=false)∧Below w.heap.size w wr) (fun i _=>l.length-(intOf i).toNat)
 case atStart=>exact ⟨0,Nat.zero_le _,rfl,rfl,Below.refl _ _⟩
 case round =>
  obtain ⟨k,hk,rfl,hf,hb⟩:=hrel;have hsz:=hb.size;by_cases hlt:k<l.length
  ·obtain ⟨b,o,x,y,rfl,_,hx,h1,h2⟩:=(H.out.below (fun _ h=>h) hb).rng_at hlt;go_wp2
   ·go_ret;exact ⟨jad (yoh hx.out n ‹_› ‹_›).symm,hb.alloc hsz _⟩
   all_goals
    refine ⟨⟨k+1,by omega,by go_num,?_,hb.alloc hsz _⟩,by simp [intOf];omega⟩
    show hasB _ n=false
    rw [jp9 l hx.out,hf.out];simp;omega
  ·go_wp2;go_ret;have hf':=hf.out;rw [List.take_of_length_le (by omega)] at hf';exact ⟨jad hf'.symm,hb⟩
theorem jbp (l:List (Int × Int)) (v:Value) (w:World) (h:Sl Enc.rng w (Old w) l v) :
  Calls Tryz.prog 191 #[v] w fun e w'=>e = .returned (.bool (jbv l))∧Below w.heap.size w w':=by
 have H:=hid h;obtain ⟨A,c,rfl,hc1,hc2,-⟩:=h;unfold maxLen at hc2;go_enter Tryz.func191,Tryz.ntmps191
 go_wp2;go_loopw [7] (fun i wr=>∃ k:Nat,k≤l.length∧i = .int .i64 k∧(Hid (jbv l=jbn (jpb l k) (l.drop k))) ∧ -1000002≤jpb l k∧jpb l k≤1000000∧Below w.heap.size w wr) (fun i _=>l.length-(intOf i).toNat)
 case atStart=>exact ⟨0,Nat.zero_le _,rfl,rfl,by simp [jpb],by simp [jpb],Below.refl _ _⟩
 case round =>
  obtain ⟨k,hk,rfl,hf,hl1,hl2,hb⟩:=hrel;have hsz:=hb.size;by_cases hlt:k<l.length
  ·obtain ⟨b,o,x,y,rfl,_,hx,h1,h2⟩:=(H.out.below (fun _ h=>h) hb).rng_at hlt;by_cases hin:-1000000≤x∧y≤1000000∧x≤y
   ·obtain ⟨i1,i2,i3⟩:=hin;by_cases h0:0<k
    ·go_wp2_with (go_at_call 210;refine (jmb _ _ _).mono ?_;rintro e w' ⟨rfl,hb'⟩)
     have hb2:Below w.heap.size w w':=jbh (hb.alloc hsz _) (by simp;omega) hb';have q0:w'.cell? ⟨wr.heap.size,0,none⟩=some (.int .i64 x):=(hb'.cell (p:=⟨wr.heap.size,0,none⟩) (by simp)).trans (by simp);obtain ⟨b2,o2,x2,y2,e,_,hx2,_,p2⟩:=(H.out.below (fun _ h=>h) hb2).rng_at (k:=k-1) (by omega);obtain ⟨rfl,rfl⟩:=jc5 e;have HP:=hid (ydx h0 hx2.out);have hp1:-1000002≤y2:=by rw [← HP.out];exact hl1
     have hp2:y2≤1000000:=by rw [← HP.out];exact hl2
     clear hl1 hl2 hb' hb h1 h2 e;have w1:IntKind.i64.wrap ((k:Int)-1)=(k:Int)-1:=IntWalk.i64_in _ (by omega);have w2:IntKind.i64.wrap (y2+1)=y2+1:=IntWalk.i64_in _ (by omega);have w3:0≤(k:Int)-1:=by omega
     have w4:((k:Int)-1).toNat=k-1:=by omega
     have w5:(k:Int)-1<l.length:=by omega
     go_quiet (fail)
     clear w1 w2 w4;go_wp2
     ·go_ret;exact ⟨jad (by rw [hf.out,jes hx.out,HP.out];simp;omega),below_drewN hb2 _⟩
     ·refine ⟨⟨k+1,by omega,by go_num,?_,?_,?_,below_drewN hb2 _⟩,by simp [intOf];omega⟩
      ·show jbv l=_
       rw [hf.out,jes hx.out,jg8 hx.out,HP.out];simp;omega
      ·rw [jg8 hx.out];omega
      ·rw [jg8 hx.out];omega
    ·go_wp2_with (go_at_call 210;refine (jmb _ _ _).mono ?_;rintro e w' ⟨rfl,hb'⟩)
     have hb2:Below w.heap.size w w':=jbh (hb.alloc hsz _) (by simp;omega) hb';have hd:decide (0<k)=false:=by simpa using h0
     have HP:Hid (jpb l k = -1000002):=by simp [jpb,show k=0 from by omega,Hid]
     go_quiet (fail)
     go_wp2;refine ⟨⟨k+1,by omega,by go_num,?_,?_,?_,below_drewN hb2 _⟩,by simp [intOf];omega⟩
     ·show jbv l=_
      rw [hf.out,jes hx.out,jg8 hx.out,HP.out];simp;omega
     ·rw [jg8 hx.out];omega
     ·rw [jg8 hx.out];omega
   ·go_wp2_with (go_at_call 210;refine (jmb _ _ _).mono ?_;rintro e w' ⟨rfl,hb'⟩)
    all_goals go_ret
    ·exact ⟨jad (by rw [hf.out,jes hx.out];simp;omega),jbh (hb.alloc hsz _) (by simp;omega) hb'⟩
    ·exact ⟨jad (by rw [hf.out,jes hx.out];simp;omega),hb.alloc hsz _⟩
    ·exact ⟨jad (by rw [hf.out,jes hx.out];simp;omega),hb.alloc hsz _⟩
  ·go_wp2;go_ret;have hf':=hf.out;rw [List.drop_of_length_le (by omega)] at hf';exact ⟨jad hf'.symm,hb⟩
open Go.Lib (hid)
open Go.RowKit
theorem jfz:Tryz.prog.underlying 83=some (.slice 87):=by kernel_rfl
def jcn (base:Nat) (v:Value) (l:List (Int × Int)) (w:World) (e:Ending) (w':World):Prop :=
 ∃ v',e = .returned v'∧OwnR w' base 87 v' l∧w.grownBy w' v.ownBlock∧jed w v v'
theorem jqv (base:Nat) (v:Value) (l:List (Int × Int)) (x y:Int) (w:World) (h:OwnR w base 87 v l) (hbase:base≤w.heap.size) (hl:(l.length+1)*16≤140737488355328) :
  Calls Tryz.prog 216 #[v,.agg #[.int .i64 x,.int .i64 y]] w (jcn base v (l ++ addL x y) w):=by
 have H:=hid h;by_cases hxy:y<x
 ·have ea:Hid (addL x y = []):=by simp [addL,hxy,Hid]
  go_enter Tryz.func216,Tryz.ntmps216
  go_wp2_with (go_at_call 210;refine (jmb _ _ _).mono ?_;rintro e w' ⟨rfl,hb'⟩)
  go_ret;have hb2:Below w.heap.size w w':=jbh ((Below.refl _ _).alloc (Nat.le_refl _) _) (by simp) hb';exact ⟨v,rfl,by rw [ea.out,List.append_nil];exact H.out.below hb2 (Nat.le_refl _),jbb hb2,jed.refl _ _⟩
 ·have ea:Hid (addL x y = [(x,y)]):=by simp [addL,hxy,Hid]
  go_enter Tryz.func216,Tryz.ntmps216
  go_wp2_with fail
  refine (jmb _ _ _).mono ?_;rintro e w' ⟨rfl,hb'⟩;have q0:w'.cell? ⟨w.heap.size,0,none⟩=some (.int .i64 x):=(hb'.cell (p:=⟨w.heap.size,0,none⟩) (by simp)).trans (by simp);have q1:w'.cell? ⟨w.heap.size,1,none⟩=some (.int .i64 y):=(hb'.cell (p:=⟨w.heap.size,1,none⟩) (by simp)).trans (by simp);have hb2:Below w.heap.size w w':=jbh ((Below.refl _ _).alloc (Nat.le_refl _) _) (by simp) hb';have hsz:=hb2.size;have ho:Hid (w'.ownsRow base 87 2 v l.length (jee l)):=H.out.below hb2 (Nat.le_refl _);clear h;go_wp2_with (at_builtin;refine jie _ rfl _ _ 83 rfl base 87 2 16 (.agg #[.int .i64 0,.int .i64 0]) jfz jg1 rfl (by decide) _ _ _ rfl (ho.out.alloc _) ⟨w'.heap.size,0,none⟩ 1 1 [.int .i64 x,.int .i64 y] rfl rfl (cell_two_new _ _ _ _) (fun x hx=>by simp at hx;rcases hx with rfl | rfl <;> rfl) (by unfold maxLen;omega) (by omega) (by simp;omega) (by decide) ?_;intro v' w3 hown' hgrow3 hmv)
  go_ret;refine ⟨v',rfl,?_,?_,hmv.later (by simp;omega)⟩
  ·rw [ea.out];unfold OwnR;rw [jfa,List.length_append];exact hown'
  ·exact World.grownBy.trans' (jbb (hb2.alloc hsz _)) hgrow3
theorem jcn.mk {w w':World} {v':Value} {l:List (Int × Int)} (ho:OwnR w' w.heap.size 87 v' l) (hb:Below w.heap.size w w'):jcn w.heap.size (.slice none 0 0) l w (.returned v') w' :=
 ⟨v',rfl,ho,jbb hb,fun _ hg=>.inr (ho.lt _ hg).1⟩
open Go.Lib (hid)
open Go.RowKit
theorem yci (l:List (Int × Int)) (v:Value) (w:World) (h:Sl Enc.rng w (Old w) l v) (hl:l.length*16≤140737488355328) :
  Calls Tryz.prog 212 #[v] w (jcn w.heap.size (.slice none 0 0) (jkx l) w):=by
 have H:=hid h;obtain ⟨A,c,rfl,hc1,hc2,-⟩:=h;unfold maxLen at hc2;go_enter Tryz.func212,Tryz.ntmps212
 go_wp2;go_loopw [3,8] (fun u i wr=>∃ k:Nat,k≤l.length∧i = .int .i64 k∧OwnR wr w.heap.size 87 u (jkx (l.take k))∧Below w.heap.size w wr) (fun _ i _=>l.length-(intOf i).toNat)
 case atStart=>exact ⟨0,Nat.zero_le _,rfl,OwnR.nil,Below.refl _ _⟩
 case round =>
  obtain ⟨k,hk,rfl,hown,hb⟩:=hrel;have hsz:=hb.size;have hcl:=jrf l k;by_cases hlt:k<l.length
  ·obtain ⟨b,o,x,y,rfl,_,hx,h1,h2⟩:=(H.out.below (fun _ h=>h) hb).rng_at hlt;go_wp2_with fail
   all_goals
    refine (jqv w.heap.size _ (jkx (l.take k)) _ _ _ (hown.alloc _) (by simp;omega) (by omega)).mono ?_;rintro e w' ⟨v',rfl,ho,hg,_⟩;rw [jra (x':=max x (-1000000)) (y':=min y 1000000) (by omega) (by omega),← yn0 hx.out] at ho;have hb2:Below w.heap.size w w':=(hb.alloc hsz _).grown hg (by simp;omega) (fun _ hr=>(hown.lt _ hr).1);go_wp2;exact ⟨⟨k+1,by omega,by go_num,ho,hb2⟩,by simp [intOf];omega⟩
  ·go_wp2;go_ret;rw [List.take_of_length_le (by omega)] at hown;exact jcn.mk hown hb
open Go.Lib (hid)
open Go.RowKit
theorem OwnR.form' {w:World} {base e:Nat} {v:Value} {l:List (Int × Int)} (h:OwnR w base e v l):∃ A c,v = .slice A l.length c∧l.length≤c∧c≤maxLen:=by
 rcases h.form with ⟨rfl,rfl⟩ | ⟨g,c,rfl,_,_,h4,h5⟩
 ·exact ⟨none,0,rfl,Nat.le_refl _,by unfold maxLen;omega⟩
 ·exact ⟨_,c,rfl,h4,h5⟩
theorem jii (w:World) (g:Nat) (hg:g=w.heap.size) (a b:Value) (t:TypeId):∀ j u,[a,b][j]? = some u→(w.alloc (.cells #[a,b] t)).cell? ((⟨g,0,none⟩:Addr).add j)=some u:=by
 subst hg;exact cell_two_new _ _ _ _
theorem yih (l:List (Int × Int)) (v:Value) (w:World) (h:Sl Enc.rng w (Old w) l v) (hl:l.length*16≤140737488355328) (hin:hiIn l) :
  Calls Tryz.prog 215 #[v] w (jcn w.heap.size (.slice none 0 0) (jjb l) w):=by
 have H:=hid h;have HI:=hid hin;clear hin;obtain ⟨A,c,rfl,hc1,hc2,-⟩:=h;unfold maxLen at hc2;go_enter Tryz.func215,Tryz.ntmps215
 go_wp2;go_loopw [3,9] (fun u i wr=>∃ k:Nat,k≤l.length∧i = .int .i64 k∧OwnR wr w.heap.size 87 u (jjb (l.take k))∧Below w.heap.size w wr) (fun _ i _=>l.length-(intOf i).toNat)
 case atStart=>exact ⟨0,Nat.zero_le _,rfl,OwnR.nil,Below.refl _ _⟩
 case round =>
  obtain ⟨k,hk,rfl,hown,hb⟩:=hrel;have hsz:=hb.size;by_cases hlt:k<l.length
  ·obtain ⟨b,o,x,y,rfl,_,hx,h1,h2⟩:=(H.out.below (fun _ h=>h) hb).rng_at hlt;have hcl:=jqc l k;have hM:=hid (yk6 hx.out);have hB:=hid (jy1 HI.out k);have hy:=ykj HI.out hx.out;obtain ⟨hy1,hy2⟩:=hy;generalize jjb (l.take k)=O at *;obtain ⟨Au,cu,rfl,hu1,hu2⟩:=hown.form';have HO:=hid hown;clear hown;unfold maxLen at hu2;by_cases h0:0<O.length
   ·obtain ⟨g,rfl,hg1,hg2⟩:∃ g,Au=some ⟨g,0,none⟩∧w.heap.size≤g∧g<wr.heap.size:=by
     rcases HO.out.form with ⟨_,e⟩ | ⟨g,c',e,e2,e3,_⟩
     ·subst e;simp at h0
     ·injection e with e1;exact ⟨g,e1,e2,e3⟩
    obtain ⟨g',o',p,q,e,_,hq,c1,c2⟩:=(HO.out.sl).rng_at (k:=O.length-1) (by omega);obtain ⟨rfl,rfl⟩:=jc5 e;obtain ⟨hq1,hq2⟩:=ykj hB.out hq.out;have c1':wr.cell? ⟨g,(O.length-1)*2,none⟩=some (.int .i64 p):=by simpa using c1
    have c2':wr.cell? ⟨g,(O.length-1)*2+1,none⟩=some (.int .i64 q):=by simpa using c2
    clear c1 c2 e;by_cases hm:x≤q+1
    ·have hd1:decide (x≤q+1)=true:=decide_eq_true hm;have w1:IntKind.i64.wrap ((O.length:Int)-1)=(O.length:Int)-1:=IntWalk.i64_in _ (by omega);have w2:IntKind.i64.wrap (q+1)=q+1:=IntWalk.i64_in _ (by omega);have w3:0≤(O.length:Int)-1:=by omega
     have w4:((O.length:Int)-1).toNat=O.length-1:=by omega
     have w5:(O.length:Int)-1<O.length:=by omega
     have w6:(1:Int)≤O.length:=by omega
     have w7:1≤O.length:=by omega
     have fz:wr.frozen? ⟨g,(O.length-1)*2+1,none⟩=false:=World.ownsRow.frozenAt HO.out _;go_wp2_with fail
     go_quiet (fail)
     clear w2;go_wp2_with fail
     go_region
     clear w1 w4;go_wp2;have ho2:OwnR ((wr.alloc (Obj.cells #[Value.int IntKind.i64 x,Value.int IntKind.i64 y] 87)).drewN (nq+1)) w.heap.size 87 (.slice (some ⟨g,0,none⟩) O.length cu) O:=HO.out.alloc _;have hs:=World.ownsRow.stored ho2 ((O.length-1)*2+1) (.int .i64 (if q<y then y else q));rw [jre O (O.length-1) (p,q) hq.out] at hs;refine ⟨⟨k+1,by omega,by go_num,?_,?_⟩,by simp [intOf];omega⟩
     ·rw [hM.out,ybt hq.out hm,show max q (x,y).2=(if q<y then y else q) from by simp only [Int.max_def];split <;> split <;> omega];unfold OwnR;rw [List.length_set];exact hs.1
     ·exact (below_drewN (hb.alloc hsz _) (nq+1)).grown hs.2 (by simp;omega) (fun _ hr=>by injection hr with hr;omega)
    ·have hd1:decide (x≤q+1)=false:=decide_eq_false hm;have w1:IntKind.i64.wrap ((O.length:Int)-1)=(O.length:Int)-1:=IntWalk.i64_in _ (by omega);have w2:IntKind.i64.wrap (q+1)=q+1:=IntWalk.i64_in _ (by omega);have w3:0≤(O.length:Int)-1:=by omega
     have w4:((O.length:Int)-1).toNat=O.length-1:=by omega
     have w5:(O.length:Int)-1<O.length:=by omega
     have w6:(1:Int)≤O.length:=by omega
     have w7:1≤O.length:=by omega
     go_wp2_with fail
     go_quiet (fail)
     clear w1 w2 w4;obtain ⟨i0,hi,hz0,hz1,hz2⟩:=info_parts jg1;go_wp2_with (at_builtin;refine wpList_append_own _ rfl _ _ 83 rfl w.heap.size 87 i0 (.agg #[.int .i64 0,.int .i64 0]) 2 16 jfz hi hz0 hz1 hz2 rfl (by decide) _ _ _ rfl (by exact World.ownsRow.alloc (World.ownsRow.alloc HO.out _) _) ⟨wr.heap.size+1,0,none⟩ 1 1 [.int .i64 x,.int .i64 y] rfl rfl (jii _ _ (by simp) _ _ _) (fun x hx=>by simp at hx;rcases hx with rfl | rfl <;> rfl) (by unfold maxLen;omega) (by omega) (by simp;omega) ?_;intro v' w3 hown' hgrow3 hnil3)
     refine ⟨⟨k+1,by omega,by go_num,?_,?_⟩,by simp [intOf];omega⟩
     ·rw [hM.out,jy4 hq.out (by omega)];unfold OwnR;rw [jfa,List.length_append];exact hown'
     ·exact (below_drewN (hb.alloc hsz _) nq |>.alloc (by simp;omega) _).grown hgrow3 (by simp;omega) (fun _ hr=>(HO.out.lt _ hr).1)
   ·have HE:=hid (show O.length=0 from by omega);have hd1:decide ((0:Int)≤(O.length:Int)-1)=false:=decide_eq_false (by omega);have hd2:decide ((1:Int)≤(O.length:Int))=false:=decide_eq_false (by omega);have hd3:decide (1≤O.length)=false:=decide_eq_false (by omega);have hd4:decide (0<O.length)=false:=decide_eq_false (by omega);go_wp2_with fail
    go_quiet (fail)
    obtain ⟨i0,hi,hz0,hz1,hz2⟩:=info_parts jg1;go_wp2_with (at_builtin;refine wpList_append_own _ rfl _ _ 83 rfl w.heap.size 87 i0 (.agg #[.int .i64 0,.int .i64 0]) 2 16 jfz hi hz0 hz1 hz2 rfl (by decide) _ _ _ rfl (by exact World.ownsRow.alloc (World.ownsRow.alloc HO.out _) _) ⟨wr.heap.size+1,0,none⟩ 1 1 [.int .i64 x,.int .i64 y] rfl rfl (jii _ _ (by simp) _ _ _) (fun x hx=>by simp at hx;rcases hx with rfl | rfl <;> rfl) (by unfold maxLen;omega) (by omega) (by simp;omega) ?_;intro v' w3 hown' hgrow3 hnil3)
    refine ⟨⟨k+1,by omega,by go_num,?_,?_⟩,by simp [intOf];omega⟩
    ·rw [hM.out,jvz HE.out];unfold OwnR;rw [jfa,List.length_append];exact hown'
    ·exact (below_drewN (hb.alloc hsz _) nq |>.alloc (by simp;omega) _).grown hgrow3 (by simp;omega) (fun _ hr=>(HO.out.lt _ hr).1)
  ·go_wp2;go_ret;rw [List.take_of_length_le (by omega)] at hown;exact jcn.mk hown hb
open Go.Lib (hid)
open Go.RowKit
theorem jge (a b:List (Int × Int)) (va vb:Value) (w:World) (ha:Sl Enc.rng w (Old w) a va) (hb:Sl Enc.rng w (Old w) b vb) (hl:(a.length+b.length)*16≤140737488355328) :
  Calls Tryz.prog 195 #[va,vb] w (jcn w.heap.size (.slice none 0 0) (jbq a b) w):=by
 have HA:=hid ha;have HB:=hid hb;obtain ⟨A,c,rfl,hc1,hc2,-⟩:=ha;obtain ⟨B,d,rfl,hd1,hd2,-⟩:=hb;unfold maxLen at hc2 hd2;go_enter Tryz.func195,Tryz.ntmps195
 go_wp2;go_loopw [5,6,7] (fun u i j wr=>∃ (k m:Nat) (O:List (Int × Int)),k≤a.length∧m≤b.length∧i = .int .i64 k∧j = .int .i64 m∧Hid (jbq a b=O ++ jbq (a.drop k) (b.drop m))∧O.length≤k+m∧OwnR wr w.heap.size 87 u O∧Below w.heap.size w wr) (fun _ i j _=>(a.length-(intOf i).toNat)+(b.length-(intOf j).toNat))
 case atStart=>exact ⟨0,0,[],Nat.zero_le _,Nat.zero_le _,rfl,rfl,rfl,Nat.zero_le _,OwnR.nil,Below.refl _ _⟩
 case round =>
  obtain ⟨k,m,O,hk,hm,rfl,rfl,hF,hO,hown,hbl⟩:=hrel;have hsz:=hbl.size;by_cases hlt:k<a.length∧m<b.length
  ·obtain ⟨hka,hmb⟩:=hlt;obtain ⟨ba,oa,x,y,rfl,hba,hx,a1,a2⟩:=(HA.out.below (fun _ h=>h) hbl).rng_at hka;obtain ⟨bb,ob,p,q,rfl,hbb,hq,b1,b2⟩:=(HB.out.below (fun _ h=>h) hbl).rng_at hmb;go_wp2_with fail
   go_still_tail 24,(by kernel_rfl)
   go_wp2_with fail
   all_goals
    refine (jqv w.heap.size _ O _ _ _ (by exact hown) (by exact hsz) (by omega)).mono ?_;rintro e w' ⟨v',rfl,ho,hg,_⟩;rw [jra (x':=max x p) (y':=min y q) (by omega) (by omega)] at ho;have hb3:Below w.heap.size wr w':=(Below.refl _ _).drew.grown hg (by exact hsz) (fun _ hr=>(hown.lt _ hr).1);have hb2:Below w.heap.size w w':=hbl.trans hb3;have a2':=(hb3.cell (p:=⟨ba,oa+k*2+1,none⟩) hba).trans a2;have b2':=(hb3.cell (p:=⟨bb,ob+m*2+1,none⟩) hbb).trans b2;have HL:=hid (jj7 (max x p) (min y q));have HO:=hid ho;have HX:=hid (ynu hx.out hq.out);clear ho hown hg a1 a2 b1 b2;by_cases hyq:y<q
    ·go_wp2_with fail
     go_quiet (fail)
     go_wp2;refine ⟨⟨k+1,m,_,by omega,by omega,by go_num,rfl,?_,?_,HO.out,below_drewN hb2 _⟩,by simp [intOf];omega⟩
     ·show jbq a b=_
      rw [hF.out,HX.out,if_pos hyq,List.append_assoc]
     ·have:=HL.out
      rw [List.length_append];omega
    ·go_wp2_with fail
     go_quiet (fail)
     go_wp2;refine ⟨⟨k,m+1,_,by omega,by omega,rfl,by go_num,?_,?_,HO.out,below_drewN hb2 _⟩,by simp [intOf];omega⟩
     ·show jbq a b=_
      rw [hF.out,HX.out,if_neg (show ¬ y<q from by omega),List.append_assoc]
     ·have:=HL.out
      rw [List.length_append];omega
  ·have HD:=hid (ygj (a:=a) (b:=b) (i:=k) (j:=m) (by omega));by_cases hka:k<a.length
   ·have hmb:¬ m<b.length:=by omega
    go_wp2;go_ret;exact jcn.mk (by rw [hF.out,HD.out,List.append_nil];exact hown) hbl
   ·go_wp2;go_ret;exact jcn.mk (by rw [hF.out,HD.out,List.append_nil];exact hown) hbl
open Go.Lib (hid)
open Go.RowKit
theorem jks (a b:List (Int × Int)) (va vb:Value) (w:World) (ha:Sl Enc.rng w (Old w) a va) (hb:Sl Enc.rng w (Old w) b vb) (hl:(a.length+b.length)*16≤140737488355328) (hin:yqx b) :
  Calls Tryz.prog 194 #[va,vb] w (jcn w.heap.size (.slice none 0 0) (jbo a b) w):=by
 have HA:=hid ha;have HB:=hid hb;have HI:=hid hin;clear hin;obtain ⟨A,c,rfl,hc1,hc2,-⟩:=ha;obtain ⟨B,d,rfl,hd1,hd2,-⟩:=hb;unfold maxLen at hc2 hd2;go_enter Tryz.func194,Tryz.ntmps194
 go_wp2;go_loopw [5,6,11] (fun u j i wr=>∃ (k m:Nat) (O:List (Int × Int)),k≤a.length∧m≤b.length∧i = .int .i64 k∧j = .int .i64 m∧Hid (jbo a b=O ++ jbo (a.drop k) (b.drop m))∧O.length≤k+m∧OwnR wr w.heap.size 87 u O∧Below w.heap.size w wr) (fun _ _ i _=>a.length-(intOf i).toNat)
 case atStart=>exact ⟨0,0,[],Nat.zero_le _,Nat.zero_le _,rfl,rfl,rfl,Nat.zero_le _,OwnR.nil,Below.refl _ _⟩
 case round =>
  rename World=>wo;obtain ⟨k,m,O,hk,hm,rfl,rfl,hF,hO,hown,hbl⟩:=hrel;have hsz:=hbl.size;by_cases hka:k<a.length
  ·obtain ⟨ba,oa,x,y,rfl,hba,hx,a1,a2⟩:=(HA.out.below (fun _ h=>h) hbl).rng_at hka;have HX:=hid (jdi hx.out);go_wp2;go_loopw [5,6] (fun u j wi=>∃ (m:Nat) (O:List (Int × Int)) (x':Int),m≤b.length∧j = .int .i64 m∧Hid (jbo a b=O ++ jbo ((x',y) :: a.drop (k+1)) (b.drop m))∧O.length≤k+m∧OwnR wi w.heap.size 87 u O∧Hid (u.ownBlock≠some wo.heap.size)∧wo.heap.size<wi.heap.size∧wi.cell? ⟨wo.heap.size,0,none⟩=some (.int .i64 x')∧wi.cell? ⟨wo.heap.size,1,none⟩=some (.int .i64 y)∧wi.frozen? ⟨wo.heap.size,0,none⟩=false∧wi.frozen? ⟨wo.heap.size,1,none⟩=false∧Below w.heap.size w wi) (fun _ j _=>b.length-(intOf j).toNat)
   case atStart =>
    refine ⟨m,O,x,hm,rfl,?_,hO,hown.alloc _,?_,by simp,by simp,by simp,by simp,by simp,hbl.alloc hsz _⟩
    ·show jbo a b=_
     rw [hF.out,HX.out]
    ·intro e;have:=hown.lt _ e
     omega
   case round =>
    clear hown;rename World=>wi;obtain ⟨m,O,x',hm,rfl,hF,hO,hown,hne,hlt,r0,r1,f0,f1,hbl⟩:=hrel;by_cases hmb:m<b.length
    ·obtain ⟨bb,ob,p,q,rfl,hbb,hq,b1,b2⟩:=(HB.out.below (fun _ h=>h) hbl).rng_at hmb;obtain ⟨i1,i2,i3,i4⟩:=jx9 HI.out hq.out;by_cases hqy:q<y
     ·go_wp2_with fail
      go_quiet (fail)
      obtain ⟨w2,hw2⟩:∃ w2,wi.drewN nq=w2:=⟨_,rfl⟩;have r0:w2.cell? ⟨wo.heap.size,0,none⟩=some (.int .i64 x'):=by subst hw2;exact r0
      have r1:w2.cell? ⟨wo.heap.size,1,none⟩=some (.int .i64 y):=by subst hw2;exact r1
      have f0:w2.frozen? ⟨wo.heap.size,0,none⟩=false:=by subst hw2;exact f0
      have f1:w2.frozen? ⟨wo.heap.size,1,none⟩=false:=by subst hw2;exact f1
      have b1:w2.cell? ⟨bb,ob+m*2,none⟩=some (.int .i64 p):=by subst hw2;exact b1
      have b2:w2.cell? ⟨bb,ob+m*2+1,none⟩=some (.int .i64 q):=by subst hw2;exact b2
      have hbl:Below w.heap.size w w2:=by subst hw2;exact below_drewN hbl _
      have hown:OwnR w2 w.heap.size 87 u5 O:=by subst hw2;exact hown
      have hlt:wo.heap.size<w2.heap.size:=by subst hw2;exact hlt
      rw [hw2];clear hw2;have w1:IntKind.i64.wrap (p-1)=p-1:=IntWalk.i64_in _ (by omega);go_wp2_with fail
      go_still_tail 10,(by kernel_rfl)
      clear w1;go_wp2_with fail
      refine (jqv w.heap.size _ O _ _ _ (by exact hown) (by exact hbl.size) (by omega)).mono ?_;rintro e w' ⟨v',rfl,ho,hg,hmv⟩;have HN:Hid (v'.ownBlock≠some wo.heap.size):=by
       intro e;rcases hmv _ e with h' | h'
       ·exact hne.out h'
       ·have h'':w2.heap.size≤wo.heap.size:=h';omega
      have hbk:w'.heap[wo.heap.size]? = w2.heap[wo.heap.size]?:=hg.block _ (by exact hlt) (fun e=>hne.out e.symm);have r0':=(World.cell?_of_block (a:=⟨wo.heap.size,0,none⟩) hbk).trans r0;have r1':=(World.cell?_of_block (a:=⟨wo.heap.size,1,none⟩) hbk).trans r1;have f0':=(World.frozen?_of_block (a:=⟨wo.heap.size,0,none⟩) hbk).trans f0;have f1':=(World.frozen?_of_block (a:=⟨wo.heap.size,1,none⟩) hbk).trans f1;have hb3:Below w.heap.size w2 w':=Below.grown (a:=w2) (w:=w2) (Below.refl _ _) (by exact ⟨hg.os,hg.tape,hg.output,hg.size,hg.block⟩) hbl.size (fun _ hr=>(hown.lt _ hr).1);have hb2:Below w.heap.size w w':=hbl.trans hb3;have hlt':wo.heap.size<w'.heap.size:=Nat.lt_of_lt_of_le hlt hb3.size;have b2':=(hb3.cell (p:=⟨bb,ob+m*2+1,none⟩) hbb).trans b2;have HL:=hid (jj7 x' (p-1));have HO:=hid ho;have HX:=hid (yos (rs:=a.drop (k+1)) (x:=x') hq.out hqy);clear ho hown hg hmv b1 b2 r0 r1 f0 f1 hbk hne;have w1:IntKind.i64.wrap (q+1)=q+1:=IntWalk.i64_in _ (by omega);go_wp2_with fail
      go_region
      clear w1;go_wp2;have em:max x' (q+1)=(if x'<q+1 then q+1 else x'):=by simp only [Int.max_def];split <;> split <;> omega
      refine ⟨⟨m+1,O ++ addL x' (p-1),max x' (q+1),by omega,by go_num,?_,?_,?_,HN,?_,?_,?_,?_,?_,?_⟩,by simp [intOf];omega⟩
      ·show jbo a b=_
       rw [hF.out,HX.out,List.append_assoc]
      ·have:=HL.out
       rw [List.length_append];omega
      ·exact OwnR.setCell_other HO.out (by exact HN.out) _
      ·simpa [World.setCell] using hlt'
      ·rw [em];exact World.cell?_setCell_same w' _ _ r0'
      ·exact (World.cell?_setCell_other w' _ _ _ (by simp)).trans r1'
      ·simpa using f0'
      ·simpa using f1'
      ·exact (hb2.setCell (by exact hsz) _).drew
     ·go_wp2_with fail
      go_quiet (fail)
      have w1:IntKind.i64.wrap (p-1)=p-1:=IntWalk.i64_in _ (by omega);go_wp2_with fail
      go_region
      clear w1;go_wp2_with fail
      all_goals
       refine (jqv w.heap.size _ O _ _ _ (by exact OwnR.setCell_other hown (by exact hne.out) _) (by simpa [World.setCell] using hbl.size) (by omega)).mono ?_;rintro e w' ⟨v',rfl,ho,hg,hmv⟩;have hb2:Below w.heap.size w w':=((below_drewN hbl (nq+1)).setCell (by exact hsz) _).grown hg (by simpa [World.setCell] using hbl.size) (fun _ hr=>(hown.lt _ hr).1);have HL:=hid (jj7 x' (min y (p-1)));have HY:=hid (ykv (rs:=a.drop (k+1)) (x:=x') hq.out (by omega));rw [jra (x':=x') (y':=min y (p-1)) rfl (by omega)] at ho;have HO:=hid ho;clear ho hg hmv;go_wp2;refine ⟨⟨k+1,m,_,by omega,hm,by go_num,rfl,?_,?_,HO.out,hb2⟩,by simp [intOf];omega⟩
       ·show jbo a b=_
        rw [hF.out,HY.out,List.append_assoc]
       ·have:=HL.out
        rw [List.length_append];omega
    ·have hd:decide (m<b.length)=false:=decide_eq_false hmb;go_wp2_with fail
     go_quiet (fail)
     go_wp2_with fail
     refine (jqv w.heap.size _ O _ _ _ (by exact hown) (by exact hbl.size) (by omega)).mono ?_;rintro e w' ⟨v',rfl,ho,hg,hmv⟩;have hb2:Below w.heap.size w w':=(below_drewN hbl _).grown hg (by exact hbl.size) (fun _ hr=>(hown.lt _ hr).1);have HL:=hid (jj7 x' y);have HY:=hid (yku (rs:=a.drop (k+1)) (x:=x') (y:=y) (show b.length≤m by omega));have HO:=hid ho;clear ho hg hmv;go_wp2;refine ⟨⟨k+1,m,_,by omega,hm,by go_num,rfl,?_,?_,HO.out,hb2⟩,by simp [intOf];omega⟩
     ·show jbo a b=_
      rw [hF.out,HY.out,List.append_assoc]
     ·have:=HL.out
      rw [List.length_append];omega
  ·have HD:=hid (yhh (a:=a) (b:=b.drop m) (k:=k) (by omega));go_wp2;go_ret;exact jcn.mk (by rw [hF.out,HD.out,List.append_nil];exact hown) hbl
open Go.Lib (hid)
open Go.RowKit
theorem bx {w w1 w2:World} (h:Below w.heap.size w w1) (h':Below w1.heap.size w1 w2):Below w.heap.size w w2:=jbh h h.size h'
theorem jaa (w:World) (o:Obj):Below w.heap.size w (w.alloc o):=(Below.refl _ _).alloc (Nat.le_refl _) o
theorem jab (w:World) (cs:Array Value) (e j:Nat) (v:Value) (h:cs[j]? = some v):(w.alloc (.cells cs e)).cell? ⟨w.heap.size,j,none⟩=some v:=(World.cell?_alloc_new ..).trans h
theorem jcw {w w':World} (h:Below w.drew.heap.size w.drew w'):Below w.heap.size w w':=⟨h.os,h.tape,h.output,h.size,h.block⟩
theorem ypu {b:List (List (Int × Int))} {k:Nat} {s:List (Int × Int)} (h:b[k]? = some s):jcf (b.drop k)=((decide (0<s.length) && jbv s) && jcf (b.drop (k+1))):=by
 rw [jdi h];rfl
theorem jbt (b:List (List (Int × Int))) (v:Value) (n:Int) (w:World) (h:Sl Enc.rng.slice w (Old w) b v) :
  Calls Tryz.prog 167 #[v,.int .i64 n] w fun e w'=>e = .returned (.bool (jan b n))∧Below w.heap.size w w':=by
 have H:=hid h;obtain ⟨A,c,rfl,hc1,hc2,-⟩:=h;unfold maxLen at hc2;by_cases hn:(b.length:Int)=n
 ·by_cases h3:n≤3
  ·have HE:Hid (jan b n=jcf b):=by simp [jan,hn,h3,Hid]
   have hne:((b.length:Int) != n)=false:=by simp [hn]
   have HN:=hid hn;clear hn;go_enter Tryz.func167,Tryz.ntmps167
   go_wp2;go_loopw [17] (fun i wr=>∃ k:Nat,k≤b.length∧i = .int .i64 k∧Hid (jcf b=jcf (b.drop k))∧Below w.heap.size w wr) (fun i _=>b.length-(intOf i).toNat)
   case atStart=>exact ⟨0,Nat.zero_le _,rfl,rfl,Below.refl _ _⟩
   case round =>
    obtain ⟨k,hk,rfl,hf,hb⟩:=hrel;have hsz:=hb.size;by_cases hlt:k<b.length
    ·obtain ⟨bb,o,s,us,rfl,_,hs,h1,h2⟩:=(H.out.below (fun _ h=>h) hb).sl_at hlt;have HS:=hid (h2.more (S':=Old wr) fun _ h=>Nat.lt_of_lt_of_le h hsz);have HX:=hid (ypu hs.out);obtain ⟨As,cs,rfl,hs1,hs2,-⟩:=h2;by_cases h0:s.length=0
     ·have h0':(s.length:Int)=0:=by omega
      go_wp2;go_ret;exact ⟨jad (by rw [HE.out,hf.out,HX.out];simp [h0]),hb⟩
     ·have h0':((s.length:Int) == 0)=false:=beq_eq_false_iff_ne.2 (by omega);have hp:Hid (decide (0<s.length)=true):=decide_eq_true (by omega);cases hg:jbv s
      ·have HG:=hid hg;clear hg;go_wp2_with fail
       refine (jbp s _ _ HS.out).mono ?_;rintro e w1 ⟨rfl,hb1⟩;rw [HG.out];go_wp2;go_ret;exact ⟨jad (by rw [HE.out,hf.out,HX.out,HG.out];simp),jbh hb hsz hb1⟩
      ·have HG:=hid hg;clear hg;go_wp2_with fail
       refine (jbp s _ _ HS.out).mono ?_;rintro e w1 ⟨rfl,hb1⟩;rw [HG.out];go_wp2;refine ⟨⟨k+1,by omega,by go_num,?_,jbh hb hsz hb1⟩,by simp [intOf];omega⟩
       show jcf b=_
       rw [hf.out,HX.out,HG.out,hp.out];rfl
    ·go_wp2;go_ret;have hf':=hf.out;rw [List.drop_of_length_le (by omega)] at hf';exact ⟨jad (by rw [HE.out,hf'];rfl),hb⟩
  ·have HE:Hid (jan b n=false):=by simp [jan,h3,Hid]
   have hne:((b.length:Int) != n)=false:=by simp [hn]
   have h3':3<n:=by omega
   have HN:=hid hn;clear hn;go_enter Tryz.func167,Tryz.ntmps167
   go_wp2;go_ret;exact ⟨jad HE.out.symm,Below.refl _ _⟩
 ·have HE:Hid (jan b n=false):=by simp [jan,hn,Hid]
  have hne:((b.length:Int) != n)=true:=by simpa using hn
  go_enter Tryz.func167,Tryz.ntmps167
  go_wp2;go_ret;exact ⟨jad HE.out.symm,Below.refl _ _⟩
theorem jnf (a b:List (List (Int × Int))) (va vb:Value) (w:World) (ha:Sl Enc.rng.slice w (Old w) a va) (hb:Sl Enc.rng.slice w (Old w) b vb) :
  Calls Tryz.prog 217 #[va,vb] w fun e w'=>e = .returned (.bool (jjo a b))∧Below w.heap.size w w':=by
 have HA:=hid ha;have HB:=hid hb;clear hb;obtain ⟨A,c,rfl,hc1,hc2,-⟩:=ha;unfold maxLen at hc2;cases hg:jan a a.length
 ·have HG:=hid hg;clear hg;go_enter Tryz.func217,Tryz.ntmps217
  go_wp2_with fail
  refine (jbt a _ _ _ HA.out).mono ?_;rintro e w1 ⟨rfl,hb1⟩;rw [HG.out];go_wp2;go_ret;exact ⟨jad (by simp [jjo,HG.out]),hb1⟩
 ·have HG:=hid hg;clear hg;go_enter Tryz.func217,Tryz.ntmps217
  go_wp2_with fail
  refine (jbt a _ _ _ HA.out).mono ?_;rintro e w1 ⟨rfl,hb1⟩;rw [HG.out];have HB1:=hid (HB.out.onOld hb1);go_wp2_with fail
  refine (jbt b _ _ _ HB1.out).mono ?_;rintro e w2 ⟨rfl,hb2⟩;go_wp2;go_ret;exact ⟨jad (by simp [jjo,HG.out]),bx hb1 hb2⟩
theorem Sl.num_at {w:World} {S:Nat→Prop} {l:List Int} {A:Option Addr} {n c:Nat} (h:Sl Enc.int w S l (.slice A n c)) {k:Nat} (hk:k<l.length) :
  ∃ b o x,A=some ⟨b,o,none⟩∧S b∧Hid (l[k]? = some x)∧w.cell? ⟨b,o+k,none⟩=some (.int .i64 x):=by
 obtain ⟨A,c,e,h2,h3,_,h4⟩:=h;injection e with e1 e2 e3;subst e1 e2 e3;obtain ⟨b,o,rfl,h6,h7⟩:=h4 (by omega);obtain ⟨cs,h8,h9⟩:=h7 k l[k] (List.getElem?_eq_getElem hk);have h8':cs = [.int .i64 l[k]]:=h8;subst h8';refine ⟨b,o,l[k],rfl,h6,List.getElem?_eq_getElem hk,?_⟩;have:=h9 0 _ rfl
 have es:Enc.int.size=1:=rfl;rw [es,Nat.mul_one,Nat.add_zero] at this;exact this
end Go.Proofs.YthmlndmlnlfhnaaGreatDoor
