import Derived.Ground.NamesProg
import Derived.Ground.Names2Prog
import Derived.Shelf.Small.Strs
import Derived.Shelf.Spec.SearchS
import Derived.Test.YthmlndmlnlfhnaaGreatDoorProg
import Derived.Test.YthmlndmlnlfhnaaGreatDoorK88e617fb
set_option maxRecDepth 100000
set_option maxHeartbeats 16000000
namespace Go.Proofs.YthmlndmlnlfhnaaGreatDoor
open Go.Lib (hid)
open Go.RowKit
def jsu (f:UInt8→Bool) (l:Bs):Prop:=∀ b,l.head? = some b→f b=false
def Sim (p q:PS):Prop:=jau p.rest=jau q.rest∧p.bad=q.bad
theorem jfw (l:Bs):jau (32 :: l)=jau l:=by simp [jau,spB]
theorem ymv (l:Bs):jau (10 :: l)=jau l:=by simp [jau,spB]
theorem jdd {b:UInt8} {l:Bs} (h:spB b=false):jau (b :: l)=b :: l:=by simp [jau,h]
theorem jve (l:Bs):jau (jau l)=jau l:=by
 unfold jau;induction l with
 | nil=>rfl
 | cons a l ih =>
  by_cases h:spB a=true
  ·simp [h,ih]
  ·simp [h]
theorem jld (l:Bs):(jau l).length≤l.length:=(List.dropWhile_sublist _).length_le
theorem jvo {p q:PS} (h:Sim p q):jcg p=jcg q:=by unfold jcg;rw [h.1,h.2]
theorem jtl {p q:PS} (h:Sim p q):strP p=strP q:=by unfold strP;rw [jvo h]
theorem jou {p q:PS} (h:Sim p q) (s:Bs):jat s p=jat s q:=by unfold jat;rw [h.1,h.2]
theorem joy {p q:PS} (h:Sim p q) (s:Bs):jb4 s p=jb4 s q:=by unfold jb4;rw [jou h,h.2]
theorem jms {p q:PS} (h:Sim p q):jaw p=jaw q:=by unfold jaw;rw [h.1,h.2]
theorem yd8 {p q:PS} (h:Sim p q) (s:Bs):jcx s p=jcx s q:=by unfold jcx;rw [jvo h,h.2]
theorem jxn {p q:PS} (h:Sim p q):jdl p=jdl q:=by unfold jdl;rw [jms h]
theorem ybn {α:Type} {item:PS → α × PS} {s:Bs} {p q:PS} (hi:item p=item q):jvy item s p=jvy item s q:=by unfold jvy;rw [hi]
theorem yaf {p q:PS} (h:Sim p q):jfr p=jfr q:=by unfold jfr;rw [jou h]
theorem tw {f:UInt8→Bool} {v rest:Bs} (hw:∀ b∈v,f b=true) (hr:jsu f rest):(v ++ rest).takeWhile f=v∧(v ++ rest).dropWhile f=rest:=by
 induction v with
 | nil =>
  cases rest with
  | nil=>exact ⟨rfl,rfl⟩
  | cons a r=>have:=hr a rfl;simp [this]
 | cons a v ih =>
  have ha:=hw a (by simp);have:=ih fun b hb=>hw b (by simp [hb])
  simp [ha,this]
theorem yky {b:UInt8} (h:ja5 b=true):spB b=false:=by
 simp [ja5] at h;simp [spB];constructor <;> (rintro rfl;revert h;decide)
theorem yfd {b:UInt8} (h:digB b=true):spB b=false:=by
 simp [digB] at h;simp [spB];constructor <;> (rintro rfl;revert h;decide)
theorem ymw {v rest:Bs} (h0:v ≠ []) (hw:∀ b∈v,ja5 b=true):jau (v ++ rest)=v ++ rest:=by
 cases v with
 | nil=>exact absurd rfl h0
 | cons a v=>exact jdd (yky (hw a (by simp)))
theorem jme {v rest:Bs} (b:Bool) (h0:v ≠ []) (hw:∀ b∈v,ja5 b=true) (hr:jsu ja5 rest):jcg ⟨v ++ rest,b⟩=(v,⟨rest,b⟩):=by
 unfold jcg;simp only [ymw h0 hw,(tw hw hr).1,(tw hw hr).2]
theorem yng {l:Bs} (b:Bool) (h:jsu ja5 (jau l)):jcg ⟨l,b⟩=([],⟨jau l,b⟩):=by
 have:=tw (v:=[]) (rest:=jau l) (f:=ja5) (by simp) h
 simp only [List.nil_append] at this;unfold jcg;simp only [this.1,this.2]
theorem ytd {d:Nat} (h:d<10):(UInt8.ofNat (48+d)).toNat=48+d:=by simp [UInt8.toNat_ofNat'];omega
theorem yqh {d:Nat} (h:d<10):digB (UInt8.ofNat (48+d))=true:=by
 unfold digB;rw [ytd h];simp;omega
theorem jwy (u:Nat):(∀ b∈Lib.decDigits u,digB b=true)∧Lib.decDigits u ≠ []:=by
 induction u using Nat.strongRecOn with
 | _ u ih =>
  rw [Lib.decDigits];by_cases h:u<10
  ·rw [dif_pos h];refine ⟨fun b hb=>?_,by simp⟩;rw [List.mem_singleton] at hb;rw [hb];exact yqh h
  ·rw [dif_neg h];have ih:=ih (u / 10) (by omega);refine ⟨fun b hb=>?_,by simp⟩;rcases List.mem_append.1 hb with hb | hb
   ·exact ih.1 b hb
   ·rw [List.mem_singleton] at hb;rw [hb];exact yqh (by omega)
theorem yap (l:Bs) (d:UInt8) (m e:Nat) (acc:Nat) (h:Lib.decFrom acc l=some m) (hd:Lib.digitVal d=some e):Lib.decFrom acc (l ++ [d])=some (m*10+e):=by
 induction l generalizing acc with
 | nil =>
  simp [Lib.decFrom] at h;subst h;simp [Lib.decFrom,hd]
 | cons a l ih =>
  simp only [Lib.decFrom,List.cons_append] at h ⊢;cases hv:Lib.digitVal a with
  | none=>rw [hv] at h;cases h
  | some x=>rw [hv] at h;simp only at h ⊢;exact ih _ h
theorem yqq {d:Nat} (h:d<10):Lib.digitVal (UInt8.ofNat (48+d))=some d:=by
 unfold Lib.digitVal;rw [ytd h,if_pos (by omega)]
 congr 1;omega
theorem yn3 (u:Nat):Lib.decFrom 0 (Lib.decDigits u)=some u:=by
 induction u using Nat.strongRecOn with
 | _ u ih =>
  rw [Lib.decDigits];by_cases h:u<10
  ·rw [dif_pos h];simp only [Lib.decFrom,yqq h];simp
  ·rw [dif_neg h];rw [yap _ _ (u / 10) (u % 10) 0 (ih _ (by omega)) (yqq (by omega))]
   congr 1
   omega
theorem ydg:∀ (k u:Nat),u<10 ^ (k+1)→(Lib.decDigits u).length≤k+1
 | 0,u,h=>by
  rw [Lib.decDigits,dif_pos (by simpa using h)];simp
 | k+1,u,h=>by
  rw [Lib.decDigits];by_cases h':u<10
  ·rw [dif_pos h'];simp
  ·rw [dif_neg h'];have:=ydg k (u / 10) (by rw [Nat.pow_succ] at h;omega)
   simp;omega
def inB (n:Int):Prop:=-1000000≤n∧n≤1000000
theorem jh3 {n:Int} (h:inB n):(Lib.itoa n).length≤8:=by
 unfold Lib.itoa;obtain ⟨h0,h1⟩:=h;split
 ·have:=ydg 6 n.natAbs (by omega)
  simp;omega
 ·have:=ydg 6 n.toNat (by omega)
  omega
theorem juj (n:Int):∃ (s:Bs) (u:Nat),Lib.itoa n=s ++ Lib.decDigits u∧((s = [45]∧n = -(u:Int))∨(s = []∧n=(u:Int))):=by
 unfold Lib.itoa;by_cases h:n<0
 ·rw [if_pos h];exact ⟨[45],n.natAbs,rfl,.inl ⟨rfl,by omega⟩⟩
 ·rw [if_neg h];exact ⟨[],n.toNat,rfl,.inr ⟨rfl,by omega⟩⟩
theorem jyk (u:Nat):∃ d r,Lib.decDigits u=d :: r∧digB d=true:=by
 obtain ⟨h1,h2⟩:=jwy u;cases h:Lib.decDigits u with
 | nil=>exact absurd h h2
 | cons d r=>exact ⟨d,r,rfl,h1 d (by rw [h];simp)⟩
theorem yjf (n:Int):Lib.atoi (Lib.itoa n)=some n:=by
 obtain ⟨s,u,e,h⟩:=juj n;obtain ⟨d,r,hd,hb⟩:=jyk u;have hn:Lib.decNat (Lib.decDigits u)=some u:=by
  unfold Lib.decNat;rw [if_neg (by rw [hd];simp),yn3]
 rw [e];rcases h with ⟨rfl,rfl⟩ | ⟨rfl,rfl⟩
 ·simp [Lib.atoi,hn]
 ·rw [List.nil_append,hd];have h1:(d == 45)=false:=by
   rw [beq_eq_false_iff_ne];rintro rfl;revert hb;decide
  have h2:(d == 43)=false:=by
   rw [beq_eq_false_iff_ne];rintro rfl;revert hb;decide
  rw [hd] at hn;simp [Lib.atoi,h1,h2,hn]
theorem yld {n:Int} (h:inB n):numV (Lib.itoa n)=some n:=by
 unfold numV;rw [Lib.atoiAll_short _ (by have:=jh3 h;omega),yjf];simp [Lib.NumEnd.ofOption]
theorem yd4 (n:Int) {rest:Bs} (hr:jsu digB rest):jm8 (Lib.itoa n ++ rest)=(Lib.itoa n).length:=by
 obtain ⟨s,u,e,h⟩:=juj n;obtain ⟨d,r,hd,hb⟩:=jyk u;have ht:=(tw (f:=digB) (v:=Lib.decDigits u) (jwy u).1 hr).1;rw [e];unfold jm8;rcases h with ⟨rfl,rfl⟩ | ⟨rfl,rfl⟩
 ·have e1:([45] ++ Lib.decDigits u) ++ rest=45 :: (Lib.decDigits u ++ rest):=by simp
  rw [e1,if_pos (by simp),List.drop_succ_cons,List.drop_zero,ht];simp;omega
 ·rw [List.nil_append,if_neg,ht];rw [hd];simp;intro h;subst h
  revert hb;decide
theorem ybg (n:Int):∃ d r,Lib.itoa n=d :: r∧(d=45∨digB d=true):=by
 obtain ⟨s,u,e,h⟩:=juj n;obtain ⟨d,r,hd,hb⟩:=jyk u;rcases h with ⟨rfl,rfl⟩ | ⟨rfl,rfl⟩
 ·exact ⟨45,_,by rw [e];rfl,.inl rfl⟩
 ·exact ⟨d,r,by rw [e,hd];rfl,.inr hb⟩
theorem ymu (n:Int) (rest:Bs):jau (Lib.itoa n ++ rest)=Lib.itoa n ++ rest:=by
 obtain ⟨d,r,e,h⟩:=ybg n;rw [e];rcases h with rfl | h
 ·exact jdd (by decide)
 ·exact jdd (yfd h)
theorem jf6 {n:Int} {rest:Bs} (b:Bool) (h:inB n) (hr:jsu digB rest):jaw ⟨Lib.itoa n ++ rest,b⟩=(n,⟨rest,b⟩):=by
 unfold jaw;simp only [ymu,yd4 n hr,List.take_left',List.drop_left',yld h]
theorem jn5 (s rest:Bs) (b:Bool) (h:jau (s ++ rest)=s ++ rest):jat s ⟨s ++ rest,b⟩=(true,⟨rest,b⟩):=by
 unfold jat;simp only [h];have:s.isPrefixOf (s ++ rest)=true:=by simp
 simp [this]
theorem jq1 (s l:Bs) (b:Bool) (h:s.isPrefixOf (jau l)=false):jat s ⟨l,b⟩=(false,⟨jau l,b⟩):=by
 unfold jat;simp [h]
theorem jkv (s rest:Bs) (b:Bool) (h:jau (s ++ rest)=s ++ rest):jb4 s ⟨s ++ rest,b⟩ = ⟨rest,b⟩:=by
 unfold jb4;rw [jn5 s rest b h];simp
def yi4 {α:Type} (item:PS → α × PS) (txt:α→Bs) (ok:Bs→Prop) (x:α):Prop :=
 ∀ rest b,ok rest→∃ r,item ⟨txt x ++ rest,b⟩=(x,⟨r,b⟩)∧jau r=jau rest
theorem yf2 {α:Type} {item:PS → α × PS} {txt:α→Bs} {ok:Bs→Prop} {c:UInt8} (hc:spB c=false) (hsim:∀ {p q:PS},Sim p q→item p=item q) (hok:∀ l,ok (c :: l)) {rest:Bs} (hr:ok rest) (hne:[c].isPrefixOf (jau rest)=false) :
  ∀ (xs:List α) (n:Nat) (r:Bs) (b:Bool),(∀ x∈xs,yi4 item txt ok x)→xs.length<n→jau r=jau (Lib.joinTail [c] (xs.map txt) ++ rest)→∃ r',sepP item [c] n ⟨r,b⟩=(xs,⟨r',b⟩)∧jau r'=jau rest
 | [],n,r,b,_,hn,hs=>by
  cases n with
  | zero=>omega
  | succ n =>
   have hs':jau r=jau rest:=by simpa [Lib.joinTail] using hs
   have:=jq1 [c] r b (by rw [hs'];exact hne)
   refine ⟨jau r,?_,by rw [jve,hs']⟩;unfold sepP;rw [this];simp
 | x :: xs,n,r,b,hx,hn,hs=>by
  cases n with
  | zero=>omega
  | succ n =>
   have e:Lib.joinTail [c] ((x :: xs).map txt) ++ rest = [c] ++ (txt x ++ (Lib.joinTail [c] (xs.map txt) ++ rest)):=by simp [Lib.joinTail]
   rw [e] at hs;have hk:jau ([c] ++ (txt x ++ (Lib.joinTail [c] (xs.map txt) ++ rest))) = [c] ++ (txt x ++ (Lib.joinTail [c] (xs.map txt) ++ rest)):=jdd hc;have h1:jat [c] ⟨r,b⟩=(true,⟨txt x ++ (Lib.joinTail [c] (xs.map txt) ++ rest),b⟩):=by
    rw [jou (p:=⟨r,b⟩) (q:=⟨[c] ++ (txt x ++ (Lib.joinTail [c] (xs.map txt) ++ rest)),b⟩) ⟨hs,rfl⟩];exact jn5 _ _ _ hk
   have hok':ok (Lib.joinTail [c] (xs.map txt) ++ rest):=by
    cases xs with
    | nil=>simpa [Lib.joinTail] using hr
    | cons y ys=>simpa [Lib.joinTail] using hok _
   obtain ⟨r1,h2,h3⟩:=hx x (by simp) _ b hok';obtain ⟨r2,h4,h5⟩:=yf2 hc hsim hok hr hne xs n r1 b (fun y hy=>hx y (by simp [hy])) (by simp at hn;omega) h3;refine ⟨r2,?_,h5⟩;unfold sepP;simp only [h1,h2,h4,if_true]
theorem jur {α:Type} {item:PS → α × PS} {txt:α→Bs} {ok:Bs→Prop} {c:UInt8} (hc:spB c=false) (hsim:∀ {p q:PS},Sim p q→item p=item q) (hok:∀ l,ok (c :: l)) {rest:Bs} (hr:ok rest) (hne:[c].isPrefixOf (jau rest)=false)
  {xs:List α} (h0:xs ≠ []) (hx:∀ x∈xs,yi4 item txt ok x) (b:Bool):∃ r',jvy item [c] ⟨Lib.join (xs.map txt) [c] ++ rest,b⟩=(xs,⟨r',b⟩)∧jau r'=jau rest:=by
 cases xs with
 | nil=>exact absurd rfl h0
 | cons x xs =>
  rw [List.map_cons,Lib.join_cons,List.append_assoc];have hok':ok (Lib.joinTail [c] (xs.map txt) ++ rest):=by
   cases xs with
   | nil=>simpa [Lib.joinTail] using hr
   | cons y ys=>simpa [Lib.joinTail] using hok _
  obtain ⟨r1,h2,h3⟩:=hx x (by simp) _ b hok';have hlen:xs.length<r1.length+1:=by
   have a1:=jld r1;rw [h3] at a1;cases xs with
   | nil=>simp
   | cons y ys =>
    have e:Lib.joinTail [c] ((y :: ys).map txt) ++ rest=c :: (txt y ++ (Lib.joinTail [c] (ys.map txt) ++ rest)):=by simp [Lib.joinTail]
    rw [e,jdd hc] at a1;have a2:∀ zs:List α,zs.length≤(Lib.joinTail [c] (zs.map txt)).length:=by
     intro zs;induction zs with
     | nil=>simp
     | cons z zs ih=>simp [Lib.joinTail] at ih ⊢;omega
    have:=a2 ys
    simp at a1 ⊢;omega
  obtain ⟨r2,h4,h5⟩:=yf2 hc hsim hok hr hne xs _ r1 b (fun y hy=>hx y (by simp [hy])) hlen h3;refine ⟨r2,?_,h5⟩;unfold jvy;simp only [h2,h4]
def okR (l:Bs):Prop:=jsu digB l ∧ [46,46].isPrefixOf (jau l)=false
def okC (l:Bs):Prop:=okR l ∧ [124].isPrefixOf (jau l)=false
theorem yqo {c:UInt8} (h:spB c=false) (h1:digB c=false) (h2:c≠46) (l:Bs):okR (c :: l):=by
 refine ⟨fun b hb=>by simp at hb;subst hb;exact h1,?_⟩;rw [jdd h];simp [List.isPrefixOf,Ne.symm h2]
theorem ys2 {c:UInt8} (h:spB c=false) (h1:digB c=false) (h2:c≠46) (h3:c≠124) (l:Bs):okC (c :: l):=by
 refine ⟨yqo h h1 h2 l,?_⟩;rw [jdd h];simp [List.isPrefixOf,Ne.symm h3]
def jpo (r:Int × Int):Prop:=inB r.1∧inB r.2∧r.1≤r.2
theorem yh1 {r:Int × Int} (h:jpo r):yi4 jdl je9 okR r:=by
 obtain ⟨x,y⟩:=r;obtain ⟨h1,h2,h3⟩:=h;simp only at h1 h2 h3;intro rest b hr;unfold je9 ji8;simp only;by_cases hlt:x<y
 ·rw [if_pos hlt];have e:Lib.itoa x ++ [46,46] ++ Lib.itoa y ++ rest=Lib.itoa x ++ ([46,46] ++ (Lib.itoa y ++ rest)):=by simp
  have k1:=jf6 (rest:=[46,46] ++ (Lib.itoa y ++ rest)) b h1 (fun b hb=>by simp at hb;subst hb;decide);have k2:=jn5 [46,46] (Lib.itoa y ++ rest) b (jdd (by decide));have k3:=jf6 (rest:=rest) b h2 hr.1;refine ⟨rest,?_,rfl⟩;unfold jdl;rw [e];simp only [k1,k2,k3,if_true];rw [decide_eq_false (by omega)];simp
 ·rw [if_neg hlt];obtain rfl:x=y:=by omega
  have k1:=jf6 (rest:=rest) b h1 hr.1;have k2:=jq1 [46,46] rest b hr.2;refine ⟨jau rest,?_,jve rest⟩;unfold jdl;simp only [k1,k2];simp
theorem jcm {f:UInt8→Bool} {c:UInt8} {l:Bs} (h:f c=false):jsu f (c :: l):=fun b hb=>by simp at hb;subst hb;exact h
theorem ju5 (r:Int × Int):∃ d m,je9 r=d :: m∧(d=45∨digB d=true):=by
 obtain ⟨d,m,e,h⟩:=ybg r.1;unfold je9 ji8;split
 ·exact ⟨d,m ++ [46,46] ++ Lib.itoa r.2,by rw [e];simp,h⟩
 ·exact ⟨d,m,e,h⟩
theorem juk {xs:List Bs} {x:Bs} {sep:Bs} {d:UInt8} {m:Bs} (h:x=d :: m):∃ k,Lib.join (x :: xs) sep=d :: k:=by
 rw [Lib.join_cons,h];exact ⟨m ++ Lib.joinTail sep xs,rfl⟩
def yqn (c:CellD):Prop:=(c.2 = []→c.1=false)∧∀ r∈c.2,jpo r
theorem juy {d:UInt8} (h:d=45∨digB d=true):spB d=false∧ja5 d=false∧d≠42∧d≠125:=by
 rcases h with rfl | h
 ·decide
 ·refine ⟨yfd h,?_,?_,?_⟩
  ·simp [digB] at h;simp [ja5];omega
  ·rintro rfl;revert h;decide
  ·rintro rfl;revert h;decide
theorem juz {word l:Bs} (b:Bool) (hw:word ≠ []) (h:jsu ja5 (jau l)):jcx word ⟨l,b⟩=(false,⟨jau l,b⟩):=by
 unfold jcx;rw [yng b h];simp [Ne.symm hw]
theorem jxe {word rest:Bs} (b:Bool) (h0:word ≠ []) (hw:∀ b∈word,ja5 b=true) (hr:jsu ja5 rest):jcx word ⟨word ++ rest,b⟩=(true,⟨rest,b⟩):=by
 unfold jcx;rw [jme b h0 hw hr];simp
theorem yjm {c:CellD} (h:yqn c):yi4 jfr jih okC c:=by
 obtain ⟨ng,rs⟩:=c;obtain ⟨h1,h2⟩:=h;simp only at h1 h2;intro rest b hr;cases rs with
 | nil =>
  have:=h1 rfl
  subst this;refine ⟨rest,?_,rfl⟩;have k:=jn5 [42] rest b (jdd (by decide));unfold jfr jih;simp only [List.length_nil,if_true,k]
 | cons r rs =>
  obtain ⟨d,m,hd,hdd⟩:=ju5 r;obtain ⟨k,hk⟩:=juk (xs:=rs.map je9) (sep:=[124]) hd;obtain ⟨n1,n2,n3,n4⟩:=juy hdd;have hj:Lib.join ((r :: rs).map je9) [124]=d :: k:=hk;obtain ⟨r',q1,q2⟩:=jur (item:=jdl) (txt:=je9) (ok:=okR) (c:=124) (by decide) (fun h=>jxn h) (yqo (by decide) (by decide) (by decide)) hr.1 hr.2 (xs:=r :: rs) (by simp) (fun x hx=>yh1 (h2 x hx)) b;rw [hj] at q1;refine ⟨r',?_,q2⟩;unfold jih;simp only [List.length_cons,Nat.add_eq_zero_iff,Nat.one_ne_zero,and_false,if_false];rw [hj];cases ng with
  | false =>
   have t1:=jq1 [42] (d :: (k ++ rest)) b (by rw [jdd n1];simp [List.isPrefixOf,Ne.symm n3]);rw [jdd n1] at t1;have t2:=juz (word:=[110,111,116]) (l:=d :: (k ++ rest)) b (by simp) (by rw [jdd n1];exact jcm n2);rw [jdd n1] at t2;have e:(if false=true then [110,111,116,32] else []) ++ (d :: k) ++ rest=d :: (k ++ rest):=by simp
   rw [e];unfold jfr jh8;simp only [t1,t2];rw [List.cons_append] at q1;simp only [q1];simp
  | true =>
   have t1:=jq1 [42] ([110,111,116] ++ (32 :: (d :: k ++ rest))) b (by rw [List.cons_append,jdd (by decide)];simp [List.isPrefixOf]);rw [List.cons_append,jdd (by decide),← List.cons_append] at t1;have t2:=jxe (word:=[110,111,116]) (rest:=32 :: (d :: k ++ rest)) b (by simp) (by decide) (jcm (by decide));have t3:jh8 ⟨32 :: (d :: k ++ rest),b⟩=jh8 ⟨d :: k ++ rest,b⟩:=ybn (jxn ⟨jfw _,rfl⟩);have e:(if true=true then [110,111,116,32] else []) ++ (d :: k) ++ rest = [110,111,116] ++ (32 :: (d :: k ++ rest)):=by simp
   rw [e];unfold jfr;simp only [t1,t2,t3];unfold jh8;simp only [q1];simp
def ylf (r:RuleD):Prop:=r.1 ≠ []∧(∀ c∈r.1,yqn c)∧inB r.2
theorem ymo {r:RuleD} (h:ylf r) (rest:Bs) (b:Bool):jjv ⟨jkq r ++ (59 :: rest),b⟩=(r,⟨rest,b⟩):=by
 obtain ⟨cs,n⟩:=r;obtain ⟨h0,h1,h2⟩:=h;simp only at h0 h1 h2;have e:jkq (cs,n) ++ (59 :: rest)=Lib.join (cs.map jih) [44] ++ (32 :: ([61,62] ++ (32 :: (Lib.itoa n ++ (59 :: rest))))):=by simp [jkq]
 have hok:okC (32 :: ([61,62] ++ (32 :: (Lib.itoa n ++ (59 :: rest))))):=by
  refine ⟨⟨jcm (by decide),?_⟩,?_⟩ <;> (rw [jfw,List.cons_append,jdd (by decide)];simp [List.isPrefixOf])
 obtain ⟨r',q1,q2⟩:=jur (item:=jfr) (txt:=jih) (ok:=okC) (c:=44) (by decide) (fun h=>yaf h) (ys2 (by decide) (by decide) (by decide) (by decide)) hok (by rw [jfw,List.cons_append,jdd (by decide)];simp [List.isPrefixOf]) (xs:=cs) h0 (fun x hx=>yjm (h1 x hx)) b;have q1':jhd ⟨Lib.join (cs.map jih) [44] ++ (32 :: ([61,62] ++ (32 :: (Lib.itoa n ++ (59 :: rest))))),b⟩=(cs,⟨r',b⟩):=q1;have k1:jb4 [61,62] ⟨r',b⟩ = ⟨32 :: (Lib.itoa n ++ (59 :: rest)),b⟩:=by
  rw [joy (p:=⟨r',b⟩) (q:=⟨[61,62] ++ (32 :: (Lib.itoa n ++ (59 :: rest))),b⟩) ⟨by rw [q2,jfw],rfl⟩];exact jkv _ _ _ (jdd (by decide))
 have k2:jaw ⟨32 :: (Lib.itoa n ++ (59 :: rest)),b⟩=(n,⟨59 :: rest,b⟩):=by
  rw [jms (p:=⟨32 :: (Lib.itoa n ++ (59 :: rest)),b⟩) (q:=⟨Lib.itoa n ++ (59 :: rest),b⟩) ⟨jfw _,rfl⟩];exact jf6 b h2 (jcm (by decide))
 have k3:jb4 [59] ⟨59 :: rest,b⟩ = ⟨rest,b⟩:=jkv [59] rest b (jdd (by decide));rw [e];unfold jjv;simp only [q1',k1,k2,k3]
def jpm (r:RuleD):Bs:=[32,32] ++ jkq r ++ [59,10]
theorem ygp (c:CellD):∃ d m,jih c=d :: m∧spB d=false∧d≠125:=by
 obtain ⟨ng,rs⟩:=c;cases rs with
 | nil=>exact ⟨42,[],rfl,by decide,by decide⟩
 | cons r rs =>
  cases ng with
  | true=>exact ⟨110,_,by simp [jih];rfl,by decide,by decide⟩
  | false =>
   obtain ⟨d,m,hd,hdd⟩:=ju5 r;obtain ⟨k,hk⟩:=juk (xs:=rs.map je9) (sep:=[124]) hd;obtain ⟨n1,n2,n3,n4⟩:=juy hdd;exact ⟨d,k,by simp [jih,hk],n1,n4⟩
theorem yh6 {r:RuleD} (h:r.1 ≠ []):∃ d m,jkq r=d :: m∧spB d=false∧d≠125:=by
 obtain ⟨cs,n⟩:=r;cases cs with
 | nil=>exact absurd rfl h
 | cons c cs =>
  obtain ⟨d,m,hd,n1,n2⟩:=ygp c;obtain ⟨k,hk⟩:=juk (xs:=cs.map jih) (sep:=[44]) hd;exact ⟨d,k ++ [32,61,62,32] ++ Lib.itoa n,by simp [jkq,hk],n1,n2⟩
theorem jxw:∀ (l:List RuleD) (n:Nat) (r:Bs),(∀ x∈l,ylf x)→l.length<n→jau r=jau ((l.map jpm).flatten ++ [125,10])→jfi n ⟨r,false⟩=(l,⟨[10],false⟩)
 | [],n,r,_,hn,hs=>by
  cases n with
  | zero=>omega
  | succ n =>
   have hs':jau r=jau [125,10]:=by simpa using hs
   have k:jat [125] ⟨r,false⟩=(true,⟨[10],false⟩):=by
    rw [jou (p:=⟨r,false⟩) (q:=⟨[125] ++ [10],false⟩) ⟨hs',rfl⟩];exact jn5 _ _ _ (jdd (by decide))
   unfold jfi;simp only [k];simp
 | x :: l,n,r,hx,hn,hs=>by
  cases n with
  | zero=>omega
  | succ n =>
   have hx0:=hx x (by simp);obtain ⟨d,m,hd,n1,n2⟩:=yh6 hx0.1;have e:((x :: l).map jpm).flatten ++ [125,10]=32 :: 32 :: (jkq x ++ (59 :: (10 :: ((l.map jpm).flatten ++ [125,10])))):=by simp [jpm]
   have hs':jau r=jkq x ++ (59 :: (10 :: ((l.map jpm).flatten ++ [125,10]))):=by
    rw [hs,e,jfw,jfw,hd,List.cons_append,jdd n1]
   have k:=jq1 [125] r false (by rw [hs',hd];simp [List.isPrefixOf,Ne.symm n2]);rw [hs'] at k;have k2:=ymo hx0 (10 :: ((l.map jpm).flatten ++ [125,10])) false;have k3:=jxw l n (10 :: ((l.map jpm).flatten ++ [125,10])) (fun y hy=>hx y (by simp [hy])) (by simp at hn;omega) (ymv _);unfold jfi;simp only [k,k2,k3];simp
theorem jdx {s:ByteArray} (h:jdr s=true):s.data.toList ≠ []∧s.data.toList.length≤8∧∀ b∈s.data.toList,ja5 b=true:=by
 simp only [jdr,Bool.and_eq_true,decide_eq_true_eq,List.all_eq_true] at h;obtain ⟨⟨h1,h2⟩,h3⟩:=h;have e:s.data.toList.length=s.size:=rfl;exact ⟨fun h=>by rw [h] at e;simp at e;omega,by omega,h3⟩
theorem yq0 (s:ByteArray):(⟨s.data.toList.toArray⟩:ByteArray)=s:=by cases s;simp
theorem jtm {s:ByteArray} (h:jdr s=true):yi4 strP (·.data.toList) (jsu ja5) s:=by
 intro rest b hr;obtain ⟨h1,h2,h3⟩:=jdx h;refine ⟨rest,?_,rfl⟩;unfold strP;simp only [jme b h1 h3 hr,yq0]
theorem jxh {n:Int} (h1:1≤n) (h2:n≤7):∃ k:Fin 7,n=(k.1:Int)+1∧polT n=polW.getD k.1 []:=by
 refine ⟨⟨n.toNat-1,by omega⟩,by simp only;omega,rfl⟩
theorem yl7:∀ k:Fin 7,polW.findIdx? (· == polW.getD k.1 [])=some k.1∧(polW.getD k.1 []).all ja5=true∧polW.getD k.1 [] ≠ []∧(polW.getD k.1 []).length≤6:=by decide
theorem ypg {n:Int} (h1:1≤n) (h2:n≤7) {rest:Bs} (b:Bool) (hr:jsu ja5 rest):polP ⟨polT n ++ rest,b⟩=(n,⟨rest,b⟩):=by
 obtain ⟨k,rfl,e⟩:=jxh h1 h2;obtain ⟨q1,q2,q3,q4⟩:=yl7 k;have:=jme (v:=polT ((k.1:Int)+1)) (rest:=rest) b (by rw [e];exact q3) (by rw [e];exact List.all_eq_true.1 q2) hr
 unfold polP;simp only [this];rw [e,q1]
def jpj:Bs:=[99,111,109,112,108,101,116,101]
def ymi (t:TabD):Bs:=(t.rules.map jpm).flatten ++ [125,10]
theorem jzt (t:TabD):jmd t=jfj ++ (32 :: (t.name.data.toList ++ (32 :: (polT t.pol ++ (32 :: ((if t.comp then jpj ++ [32] else []) ++ ([40] ++ (Lib.join (t.ins.map (·.data.toList)) [44] ++ ([41] ++ (32 :: ([123] ++ (10 :: ymi t)))))))))))) :=by
 have e:∀ (x:Bs) (l:List Bs),Lib.join (x :: l) []=x ++ l.flatten:=by
  intro x l;rw [Lib.join_cons];simp [Lib.joinTail]
 unfold jmd juc ymi;rw [List.cons_append,List.nil_append,List.cons_append,e];cases t.comp <;> simp [Lib.join_cons,Lib.joinTail,jpj] <;> rfl
def ys3 (t:TabD):Prop:=jdr t.name=true∧(1≤t.pol∧t.pol≤7)∧(t.ins ≠ []∧∀ s∈t.ins,jdr s=true)∧∀ r∈t.rules,ylf r
theorem yp0 {t:TabD} (h:ys3 t):jcg ⟨jmd t,false⟩=(jfj,(jcg ⟨jmd t,false⟩).2)∧tabP (jcg ⟨jmd t,false⟩).2=(t,⟨[10],false⟩):=by
 obtain ⟨h1,⟨h2,h3⟩,⟨h4,h5⟩,h6⟩:=h;rw [jzt];obtain ⟨X,hX⟩:∃ X,X=ymi t:=⟨_,rfl⟩;rw [← hX];have k0:=jme (v:=jfj) (rest:=32 :: (t.name.data.toList ++ (32 :: (polT t.pol ++ (32 :: ((if t.comp then jpj ++ [32] else []) ++ ([40] ++ (Lib.join (t.ins.map (·.data.toList)) [44] ++ ([41] ++ (32 :: ([123] ++ (10 :: X))))))))))))  false (by decide) (by decide) (jcm (by decide));rw [k0];refine ⟨rfl,?_⟩;simp only;have hsp:ja5 32=false:=by decide
 obtain ⟨r1,k1,k1'⟩:=jtm h1 (32 :: (polT t.pol ++ (32 :: ((if t.comp then jpj ++ [32] else []) ++ ([40] ++ (Lib.join (t.ins.map (·.data.toList)) [44] ++ ([41] ++ (32 :: ([123] ++ (10 :: X)))))))))) false (jcm hsp);have k1s:strP ⟨32 :: (t.name.data.toList ++ (32 :: (polT t.pol ++ (32 :: ((if t.comp then jpj ++ [32] else []) ++ ([40] ++ (Lib.join (t.ins.map (·.data.toList)) [44] ++ ([41] ++ (32 :: ([123] ++ (10 :: X)))))))))))  ,false⟩=(t.name,⟨r1,false⟩):=by
  rw [← k1];exact jtl ⟨jfw _,rfl⟩
 have polsim:∀ {p q:PS},Sim p q→polP p=polP q:=fun h=>by unfold polP;rw [jvo h]
 have k2:polP ⟨r1,false⟩=(t.pol,⟨32 :: ((if t.comp then jpj ++ [32] else []) ++ ([40] ++ (Lib.join (t.ins.map (·.data.toList)) [44] ++ ([41] ++ (32 :: ([123] ++ (10 :: X))))))),false⟩):=by
  rw [← ypg h2 h3 false (jcm hsp)];exact polsim ⟨by rw [k1',jfw],rfl⟩
 obtain ⟨Y,hY⟩:∃ Y,Y=Lib.join (t.ins.map (·.data.toList)) [44] ++ ([41] ++ (32 :: ([123] ++ (10 :: X)))):=⟨_,rfl⟩;have k3:∃ r3,jcx jpj ⟨32 :: ((if t.comp then jpj ++ [32] else []) ++ ([40] ++ Y)),false⟩=(t.comp,⟨r3,false⟩)∧jau r3=jau ([40] ++ Y):=by
  cases t.comp with
  | true =>
   refine ⟨32 :: ([40] ++ Y),?_,jfw _⟩;have:=jxe (word:=jpj) (rest:=32 :: ([40] ++ Y)) false (by decide) (by decide) (jcm hsp)
   rw [← this];refine yd8 ⟨?_,rfl⟩ _
   first | (rw [jfw];done) | (rw [jfw];rfl)
  | false =>
   refine ⟨[40] ++ Y,?_,rfl⟩;have e:jau (32 :: ([40] ++ Y)) = [40] ++ Y:=by rw [jfw];exact jdd (by decide)
   have:=juz (word:=jpj) (l:=32 :: ([40] ++ Y)) false (by decide) (by rw [e];exact jcm (by decide))
   rw [e] at this;simpa using this
 obtain ⟨r3,k3,k3'⟩:=k3;rw [hY] at k3;have k4:jb4 [40] ⟨r3,false⟩ = ⟨Y,false⟩:=by
  rw [joy (p:=⟨r3,false⟩) (q:=⟨[40] ++ Y,false⟩) ⟨k3',rfl⟩];exact jkv _ _ _ (jdd (by decide))
 obtain ⟨r5,k5,k5'⟩:=jur (item:=strP) (txt:=(·.data.toList)) (ok:=jsu ja5) (c:=44) (by decide) (fun h=>jtl h) (fun l=>jcm (by decide)) (rest:=[41] ++ (32 :: ([123] ++ (10 :: X)))) (jcm (by decide)) (by rw [List.cons_append,jdd (by decide)];simp [List.isPrefixOf]) h4 (fun x hx=>jtm (h5 x hx)) false;rw [← hY] at k5;have k6:jb4 [41] ⟨r5,false⟩ = ⟨32 :: ([123] ++ (10 :: X)),false⟩:=by
  rw [joy (p:=⟨r5,false⟩) (q:=⟨[41] ++ (32 :: ([123] ++ (10 :: X))),false⟩) ⟨k5',rfl⟩];exact jkv _ _ _ (jdd (by decide))
 have k7:jb4 [123] ⟨32 :: ([123] ++ (10 :: X)),false⟩ = ⟨10 :: X,false⟩:=by
  rw [joy (p:=⟨32 :: ([123] ++ (10 :: X)),false⟩) (q:=⟨[123] ++ (10 :: X),false⟩) ⟨jfw _,rfl⟩];exact jkv _ _ _ (jdd (by decide))
 have hlen:t.rules.length<jmr ⟨10 :: X,false⟩+1:=by
  have:∀ l:List RuleD,l.length≤((l.map jpm).flatten).length:=by
   intro l;induction l with
   | nil=>simp
   | cons x l ih=>simp [jpm] at ih ⊢;omega
  have:=this t.rules
  rw [hX];simp [jmr,ymi] at this ⊢;omega
 have k8:=jxw t.rules _ (10 :: X) h6 hlen (by rw [ymv,hX];rfl);unfold tabP jyq jio;change jcx [99,111,109,112,108,101,116,101] _=_ at k3;simp only [k1s,k2,k3,k4,k5,k6,k7,k8]
theorem yn7 {d:DomD} (h1:jdr d.1=true) (h2:inB d.2.1) (h3:inB d.2.2):jcg ⟨domT d,false⟩=(jbx,(jcg ⟨domT d,false⟩).2)∧domP (jcg ⟨domT d,false⟩).2=(d,⟨[10],false⟩):=by
 obtain ⟨nm,lo,hi⟩:=d;simp only at h1 h2 h3;have e:domT (nm,lo,hi)=jbx ++ (32 :: (nm.data.toList ++ (32 :: (Lib.itoa lo ++ ([46,46] ++ (Lib.itoa hi ++ [10])))))):=by simp [domT,ji8]
 rw [e];have hsp:ja5 32=false:=by decide
 have k0:=jme (v:=jbx) (rest:=32 :: (nm.data.toList ++ (32 :: (Lib.itoa lo ++ ([46,46] ++ (Lib.itoa hi ++ [10])))))) false (by decide) (by decide) (jcm hsp);rw [k0];refine ⟨rfl,?_⟩;simp only;obtain ⟨r1,k1,k1'⟩:=jtm h1 (32 :: (Lib.itoa lo ++ ([46,46] ++ (Lib.itoa hi ++ [10])))) false (jcm hsp);have k1s:strP ⟨32 :: (nm.data.toList ++ (32 :: (Lib.itoa lo ++ ([46,46] ++ (Lib.itoa hi ++ [10]))))),false⟩=(nm,⟨r1,false⟩):=by
  rw [← k1];exact jtl ⟨jfw _,rfl⟩
 have k2:jaw ⟨r1,false⟩=(lo,⟨[46,46] ++ (Lib.itoa hi ++ [10]),false⟩):=by
  rw [← jf6 (rest:=[46,46] ++ (Lib.itoa hi ++ [10])) false h2 (jcm (by decide))];exact jms ⟨by rw [k1',jfw],rfl⟩
 have k3:jb4 [46,46] ⟨[46,46] ++ (Lib.itoa hi ++ [10]),false⟩ = ⟨Lib.itoa hi ++ [10],false⟩:=jkv _ _ _ (jdd (by decide));have k4:=jf6 (rest:=[10]) false h3 (jcm (by decide));unfold domP;simp only [k1s,k2,k3,k4]
theorem jmk:∀ (l:List (Int × Int)) (k:Int),jbn k l=true→∀ r∈l,jpo r
 | [],_,_=>by simp
 | a :: l,k,h=>by
  simp only [jbn,Bool.and_eq_true,decide_eq_true_eq] at h;intro r hr;have ih:=jmk l _ h.2;rcases List.mem_cons.1 hr with rfl | hr
  ·unfold jpo inB;omega
  ·exact ih r hr
theorem joi {t:TabD} (h:jbd t=true):ys3 t:=by
 simp only [jbd,Bool.and_eq_true,decide_eq_true_eq,jfs,jgv,List.all_eq_true] at h;obtain ⟨⟨⟨⟨h1,h2⟩,h3⟩,⟨h4,h5⟩,h6⟩,⟨h7,h8⟩,h9⟩:=h;have hins:∀ (l:List ByteArray) (s:List ByteArray),jly s l=true→∀ x∈l,jdr x=true:=by
  intro l;induction l with
  | nil=>simp
  | cons a l ih =>
   intro s hs x hx;simp only [jly,Bool.and_eq_true] at hs;rcases List.mem_cons.1 hx with rfl | hx
   ·first | exact hs.1.1 | exact hs.1 | simp_all
   ·exact ih _ hs.2 x hx
 refine ⟨h1,⟨h2,h3⟩,⟨fun h=>by rw [h] at h4;simp at h4,hins _ _ h6⟩,fun r hr=>?_⟩;have hr:=h9 r hr;simp only [jfb,Bool.and_eq_true,decide_eq_true_eq,List.all_eq_true] at hr;obtain ⟨⟨⟨q1,q2⟩,q3⟩,q4⟩:=hr;refine ⟨fun h=>by rw [h] at q3;simp at q3;omega,fun c hc=>?_,⟨q1,q2⟩⟩;have hc:=q4 c hc;simp only [jcl,Bool.and_eq_true,decide_eq_true_eq] at hc;refine ⟨fun h=>?_,jmk _ _ hc.2⟩;have:=hc.1.1
 rw [h] at this;simpa using this
theorem jok {m:Nat} {c:UInt8}:∀ {xs:List Bs},(∀ x∈xs,x.length≤m)→(Lib.join xs [c]).length≤xs.length*(m+1)
 | [],_=>by simp [Lib.join]
 | x :: xs,h=>by
  have tail:∀ ys:List Bs,(∀ y∈ys,y.length≤m)→(Lib.joinTail [c] ys).length≤ys.length*(m+1):=by
   intro ys;induction ys with
   | nil=>simp [Lib.joinTail]
   | cons y ys ih =>
    intro hy;have a:=hy y (by simp);have b:=ih fun z hz=>hy z (by simp [hz]);have e:Lib.joinTail [c] (y :: ys) = [c] ++ y ++ Lib.joinTail [c] ys:=by simp [Lib.joinTail]
    rw [e];simp only [List.length_append,List.length_cons,List.length_nil,Nat.succ_mul];omega
  rw [Lib.join_cons];have a:=h x (by simp);have b:=tail xs fun z hz=>h z (by simp [hz]);simp only [List.length_append,List.length_cons,Nat.succ_mul];omega
theorem yfg {m:Nat}:∀ {xs:List Bs},(∀ x∈xs,x.length≤m)→xs.flatten.length≤xs.length*m
 | [],_=>by simp
 | x :: xs,h=>by
  have a:=h x (by simp);have b:=yfg (xs:=xs) fun z hz=>h z (by simp [hz]);simp only [List.flatten_cons,List.length_append,List.length_cons,Nat.succ_mul];omega
theorem jxo {r:Int × Int} (h:jpo r):(je9 r).length≤18:=by
 have a:=jh3 h.1;have b:=jh3 h.2.1;unfold je9 ji8;split
 ·simp;omega
 ·omega
theorem yah {c:CellD} (h:jcl c=true):(jih c).length≤80:=by
 simp only [jcl,Bool.and_eq_true,decide_eq_true_eq] at h;have hr:=jmk _ _ h.2;have a:=jok (m:=18) (c:=124) (xs:=c.2.map je9) (fun x hx=>by
  obtain ⟨r,hr',rfl⟩:=List.mem_map.1 hx;exact jxo (hr r hr'))
 have b:c.2.length*19≤4*19:=Nat.mul_le_mul_right _ h.1.2;unfold jih;split
 ·simp
 ·rw [List.length_map] at a;rw [List.length_append];split <;> simp <;> omega
theorem ybm {n:Int} {r:RuleD} (hn:n≤3) (h:jfb n r=true):(jpm r).length≤259:=by
 simp only [jfb,Bool.and_eq_true,decide_eq_true_eq,List.all_eq_true] at h;obtain ⟨⟨⟨q1,q2⟩,q3⟩,q4⟩:=h;have a:=jok (m:=80) (c:=44) (xs:=r.1.map jih) (fun x hx=>by
  obtain ⟨c,hc,rfl⟩:=List.mem_map.1 hx;exact yah (q4 c hc))
 have b:=jh3 ⟨q1,q2⟩;have c:r.1.length*81≤3*81:=Nat.mul_le_mul_right _ (by omega);rw [List.length_map] at a;unfold jpm jkq;simp;omega
theorem jn4 {t:TabD} (h:jbd t=true):(jmd t).length≤1700:=by
 have hok:=joi h;simp only [jbd,Bool.and_eq_true,decide_eq_true_eq,jfs,jgv,List.all_eq_true] at h;obtain ⟨⟨⟨⟨h1,h2⟩,h3⟩,⟨h4,h5⟩,h6⟩,⟨h7,h8⟩,h9⟩:=h;have a:=(jdx h1).2.1;have b:=jok (m:=8) (c:=44) (xs:=t.ins.map (·.data.toList)) (fun x hx=>by
  obtain ⟨s,hs,rfl⟩:=List.mem_map.1 hx;exact (jdx (hok.2.2.1.2 s hs)).2.1)
 rw [List.length_map] at b;have b2:t.ins.length*9≤3*9:=Nat.mul_le_mul_right _ (by omega);have c:=yfg (m:=259) (xs:=t.rules.map jpm) (fun x hx=>by
  obtain ⟨r,hr,rfl⟩:=List.mem_map.1 hx;exact ybm (by omega) (h9 r hr))
 rw [List.length_map] at c;have c2:t.rules.length*259≤6*259:=Nat.mul_le_mul_right _ (by omega);obtain ⟨k,_,e⟩:=jxh h2 h3;have d:=(yl7 k).2.2.2;rw [← e] at d;rw [jzt];have f:(if t.comp=true then jpj ++ [32] else []).length≤9:=by split <;> decide
 have g:jfj.length=5:=rfl;simp only [List.length_append,List.length_cons,List.length_nil,ymi];omega
theorem jim {d:DomD} (h:jef d=true):jdr d.1=true∧inB d.2.1∧inB d.2.2:=by
 simp only [jef,Bool.and_eq_true,decide_eq_true_eq] at h;obtain ⟨⟨⟨h1,h2⟩,h3⟩,h4⟩:=h;exact ⟨h1,⟨by omega,by omega⟩,⟨by omega,by omega⟩⟩
theorem jp2 {d:DomD} (h:jef d=true):(domT d).length≤50:=by
 obtain ⟨h1,h2,h3⟩:=jim h;have a:=(jdx h1).2.1;have b:=jh3 h2;have c:=jh3 h3;have g:jbx.length=6:=rfl;simp only [domT,ji8,List.length_append,List.length_cons,List.length_nil];omega
theorem yfe:jni ⟨[10],false⟩=true:=by decide
theorem jl5 {t:TabD} (h:jbd t=true):jdz (jmd t)=(jnc,t,true,0):=by
 obtain ⟨k1,k2⟩:=yp0 (joi h);have hl:=jn4 h;have e1:(jcg ⟨jmd t,false⟩).1=jfj:=by rw [k1]
 unfold jdz;rw [if_neg (by omega),if_neg (by rw [e1];rintro ⟨h,_⟩;revert h;decide),if_pos ⟨e1,by rw [k2];exact yfe,by rw [k2];exact h⟩,k2]
theorem jkn {d:DomD} (h:jef d=true):jdz (domT d)=(d,je1,false,0):=by
 obtain ⟨h1,h2,h3⟩:=jim h;obtain ⟨k1,k2⟩:=yn7 h1 h2 h3;have hl:=jp2 h;have e1:(jcg ⟨domT d,false⟩).1=jbx:=by rw [k1]
 unfold jdz;rw [if_neg (by omega),if_pos ⟨e1,by rw [k2];exact yfe,by rw [k2];exact h⟩,k2]
theorem jkm (s:Bs):(∃ d,jdz s=(d,je1,false,0)∧jef d=true)∨(∃ t,jdz s=(jnc,t,true,0)∧jbd t=true)∨∃ e,jdz s=(jnc,je1,false,e)∧e≠0:=by
 unfold jdz;split
 ·exact .inr (.inr ⟨5,rfl,by decide⟩)
 ·split
  ·rename_i h;exact .inl ⟨_,rfl,h.2.2⟩
  ·split
   ·rename_i h;exact .inr (.inl ⟨_,rfl,h.2.2⟩)
   ·exact .inr (.inr ⟨1,rfl,by decide⟩)
open Go.Lib (hid)
def ltS (a b:ByteArray):Bool:=Op.bytesLess a.toList b.toList
theorem jrr (a:ByteArray):ltS a a=false:=jel _
theorem jut {a b c:ByteArray} (h:ltS a b=true) (h':ltS b c=true):ltS a c=true:=jhy h h'
theorem yiu {a b:ByteArray} (h:a.toList=b.toList):a=b:=by
 rw [ByteArray.toList_eq,ByteArray.toList_eq] at h;cases a;cases b;simp at h;rw [h]
theorem ybp {a b:ByteArray} (h:ltS a b=false) (hne:a≠b):ltS b a=true:=jng h fun e=>hne (yiu e)
section
variable {α:Type} {f:α→ByteArray}
theorem jlb {l:List α}:jdc f l=true↔l.Pairwise fun a b=>ltS (f a) (f b)=true:=by
 induction l with
 | nil=>simp [jdc]
 | cons a l ih =>
  rw [List.pairwise_cons];constructor
  ·intro h;exact ⟨jqq h,ih.1 (jqs h)⟩
  ·rintro ⟨h1,h2⟩;cases l with
   | nil=>rfl
   | cons b l =>
    simp only [jdc,Bool.and_eq_true,Bool.not_eq_true'];exact ⟨jum.2 (h1 b (by simp)),ih.2 h2⟩
theorem jm1 {l:List α} (h:jdc f l=true) (p:α→Bool):jdc f (l.filter p)=true:=jlb.2 ((jlb.1 h).filter p)
def insF (f:α→ByteArray) (l:List α) (x:α):List α:=l.takeWhile (fun y=>ltS (f y) (f x)) ++ x :: l.dropWhile (fun y=>ltS (f y) (f x))
def posF (f:α→ByteArray) (l:List α) (s:ByteArray):Nat:=(l.takeWhile (fun y=>ltS (f y) s)).length
theorem jyt {l:List α} {x y:α}:y∈insF f l x↔y=x∨y∈l:=by
 have:y∈l↔y∈l.takeWhile (fun y=>ltS (f y) (f x))∨y∈l.dropWhile (fun y=>ltS (f y) (f x)):=by
  rw [← List.mem_append,List.takeWhile_append_dropWhile]
 unfold insF;rw [this];simp only [List.mem_append,List.mem_cons];constructor
 ·rintro (h | h | h)
  ·exact .inr (.inl h)
  ·exact .inl h
  ·exact .inr (.inr h)
 ·rintro (h | h | h)
  ·exact .inr (.inl h)
  ·exact .inl h
  ·exact .inr (.inr h)
theorem jip (l:List α) (x:α):(insF f l x).length=l.length+1:=by
 have:=congrArg List.length (List.takeWhile_append_dropWhile (p:=fun y=>ltS (f y) (f x)) (l:=l))
 rw [List.length_append] at this;unfold insF;simp only [List.length_append,List.length_cons];omega
theorem jpr (l:List α) (s:ByteArray):posF f l s≤l.length:=(List.takeWhile_sublist _).length_le
theorem jq0 (l:List α) (s:ByteArray):l.takeWhile (fun y=>ltS (f y) s)=l.take (posF f l s):=by
 have h:=List.takeWhile_append_dropWhile (p:=fun y=>ltS (f y) s) (l:=l);have h2:l.take (posF f l s)=(l.takeWhile (fun y=>ltS (f y) s) ++ l.dropWhile (fun y=>ltS (f y) s)).take (posF f l s):=by rw [h]
 rw [h2,List.take_append_of_le_length (by simp [posF]),List.take_of_length_le (by simp [posF])]
theorem jp3 (l:List α) (s:ByteArray):l.dropWhile (fun y=>ltS (f y) s)=l.drop (posF f l s):=by
 have h:=List.takeWhile_append_dropWhile (p:=fun y=>ltS (f y) s) (l:=l);have h2:l.drop (posF f l s)=(l.takeWhile (fun y=>ltS (f y) s) ++ l.dropWhile (fun y=>ltS (f y) s)).drop (posF f l s):=by rw [h]
 rw [h2,List.drop_append_of_le_length (by simp [posF]),List.drop_of_length_le (by simp [posF]),List.nil_append]
theorem juh (l:List α) (x:α):insF f l x=l.take (posF f l (f x)) ++ x :: l.drop (posF f l (f x)):=by
 unfold insF;rw [jq0,jp3]
theorem jvw {p:α→Bool} {l:List α} {y:α} {m:List α} (h:l.dropWhile p=y :: m):p y=false:=by
 induction l with
 | nil=>simp at h
 | cons a l ih =>
  rw [List.dropWhile_cons] at h;split at h
  ·exact ih h
  ·rename_i hp
   injection h with h1 h2;subst h1;simpa using hp
theorem jy0 {p:α→Bool} {l:List α} {y:α} (h:y∈l.takeWhile p):p y=true:=by
 induction l with
 | nil=>simp at h
 | cons a l ih =>
  rw [List.takeWhile_cons] at h;split at h
  ·rename_i hp
   rcases List.mem_cons.1 h with rfl | h
   ·exact hp
   ·exact ih h
  ·simp at h
theorem yb7 {l:List α} {s:ByteArray} {k:Nat} {x:α} (hk:k<posF f l s) (h:l[k]? = some x):ltS (f x) s=true:=by
 have h2:(l.takeWhile (fun y=>ltS (f y) s))[k]? = some x:=by rw [jq0,List.getElem?_take_of_lt hk];exact h
 exact jy0 (p:=fun y=>ltS (f y) s) (List.mem_of_getElem? h2)
theorem jxi {l:List α} (hr:jdc f l=true) {s:ByteArray} {k:Nat} {x:α} (hk:posF f l s≤k) (h:l[k]? = some x):ltS (f x) s=false:=by
 have h2:(l.dropWhile (fun y=>ltS (f y) s))[k-posF f l s]? = some x:=by rw [jp3,List.getElem?_drop];rw [show posF f l s+(k-posF f l s)=k from by omega];exact h
 cases hd:l.dropWhile (fun y=>ltS (f y) s) with
 | nil=>rw [hd] at h2;simp at h2
 | cons y m =>
  have hy:=jvw hd;rw [hd] at h2;have hpm:(y :: m).Pairwise fun a b=>ltS (f a) (f b)=true:=by rw [← hd];exact (jlb.1 hr).sublist (List.dropWhile_sublist _)
  have hx:=List.mem_of_getElem? h2;rcases List.mem_cons.1 hx with rfl | hx
  ·exact hy
  ·have h3:=(List.pairwise_cons.1 hpm).1 x hx;cases h4:ltS (f x) s
   ·rfl
   ·have:=jut h3 h4;rw [hy] at this;cases this
theorem jui {l:List α} {x:α} (h:jdc f l=true) (hne:∀ y∈l,f y≠f x):jdc f (insF f l x)=true:=by
 have hp:=jlb.1 h;rw [juh];refine jlb.2 (List.pairwise_append.2 ⟨hp.sublist (List.take_sublist _ _),List.pairwise_cons.2 ⟨fun y hy=>?_,hp.sublist (List.drop_sublist _ _)⟩,fun a ha b hb=>?_⟩)
 ·obtain ⟨k,hk⟩:=List.mem_iff_getElem?.1 hy;rw [List.getElem?_drop] at hk;exact ybp (jxi h (by omega) hk) (hne y (List.mem_of_getElem? hk))
 ·have hax:ltS (f a) (f x)=true:=by
   obtain ⟨k,hk⟩:=List.mem_iff_getElem?.1 ha;have hkl:=(List.getElem?_eq_some_iff.1 hk).1;rw [List.length_take] at hkl;rw [List.getElem?_take_of_lt (by omega)] at hk;exact yb7 (by omega) hk
  rcases List.mem_cons.1 hb with rfl | hb
  ·exact hax
  ·obtain ⟨k,hk⟩:=List.mem_iff_getElem?.1 hb;rw [List.getElem?_drop] at hk;exact jut hax (ybp (jxi h (by omega) hk) (hne b (List.mem_of_getElem? hk)))
theorem yfz {l:List α}:∀ {m:List α},jdc f l=true→jdc f m=true→(∀ x,x∈l↔x∈m)→l=m:=by
 induction l with
 | nil =>
  intro m _ _ h;cases m with
  | nil=>rfl
  | cons b m=>exact absurd ((h b).2 (by simp)) (by simp)
 | cons a l ih =>
  intro m h1 h2 h;cases m with
  | nil=>exact absurd ((h a).1 (by simp)) (by simp)
  | cons b m =>
   have e:a=b:=by
    rcases List.mem_cons.1 ((h a).1 (by simp)) with e | ha
    ·exact e
    ·rcases List.mem_cons.1 ((h b).2 (by simp)) with e | hb
     ·exact e.symm
     ·have x1:=jqq h1 b hb;have x2:=jqq h2 a ha;have:=jhy x1 x2
      rw [jel] at this;cases this
   subst e;have hn:∀ {l:List α},jdc f (a :: l)=true→a ∉ l:=fun hr hx=>by
    have:=jqq hr a hx;rw [jel] at this;cases this
   congr 1
   refine ih (jqs h1) (jqs h2) fun x=>⟨fun hx=>?_,fun hx=>?_⟩
   ·rcases List.mem_cons.1 ((h x).1 (by simp [hx])) with rfl | h3
    ·exact absurd hx (hn h1)
    ·exact h3
   ·rcases List.mem_cons.1 ((h x).2 (by simp [hx])) with rfl | h3
    ·exact absurd hx (hn h2)
    ·exact h3
end
def jo2 (l:List ByteArray):Bool:=jdc (fun s=>s) l
def jbg (l:List ByteArray) (s:ByteArray):List ByteArray:=if hasN l s then l else insF (fun s=>s) l s
theorem jfe {l:List ByteArray} {s x:ByteArray}:x∈jbg l s↔x=s∨x∈l:=by
 unfold jbg;split
 ·rename_i h
  exact ⟨.inr,fun h'=>h'.elim (fun e=>e ▸ jej.1 h) id⟩
 ·exact jyt
theorem jho {l:List ByteArray} (s:ByteArray) (h:jo2 l=true):jo2 (jbg l s)=true:=by
 unfold jbg;split
 ·exact h
 ·rename_i hn
  exact jui h fun y hy e=>hn (jej.2 (e ▸ hy))
theorem jfn (l:List ByteArray) (s:ByteArray):(jbg l s).length≤l.length+1:=by
 unfold jbg;split
 ·omega
 ·rw [jip];omega
def jay (l:List ByteArray) (m:List ByteArray):List ByteArray:=m.foldl jbg l
theorem jk8 {m:List ByteArray}:∀ {l:List ByteArray} {x:ByteArray},x∈jay l m↔x∈m∨x∈l:=by
 induction m with
 | nil=>intro l x;simp [jay]
 | cons s m ih =>
  intro l x
  show x∈jay (jbg l s) m↔_
  rw [ih,jfe,List.mem_cons];constructor
  ·rintro (h | h | h)
   ·exact .inl (.inr h)
   ·exact .inl (.inl h)
   ·exact .inr h
  ·rintro ((h | h) | h)
   ·exact .inr (.inl h)
   ·exact .inl h
   ·exact .inr (.inr h)
theorem jen {m:List ByteArray}:∀ {l:List ByteArray},jo2 l=true→jo2 (jay l m)=true:=by
 induction m with
 | nil=>intro l h;exact h
 | cons s m ih=>intro l h;exact ih (jho s h)
theorem jds {m:List ByteArray}:∀ {l:List ByteArray},(jay l m).length≤l.length+m.length:=by
 induction m with
 | nil=>intro l;exact Nat.le_refl _
 | cons s m ih =>
  intro l;have h1:=@ih (jbg l s);have h2:=jfn l s
  show (jay (jbg l s) m).length≤_
  simp only [List.length_cons];omega
def jif:BookD:=⟨[],[]⟩
def ja2 (b:BookD) (s:ByteArray):BookD:=⟨b.doms.filter fun d=>!jap d.1 s,b.tabs.filter fun t=>!jap t.name s⟩
def jgj (b:BookD) (d:DomD):BookD:=⟨insF (·.1) (ja2 b d.1).doms d,(ja2 b d.1).tabs⟩
def jd1 (b:BookD) (t:TabD):BookD:=⟨(ja2 b t.name).doms,insF (·.name) (ja2 b t.name).tabs t⟩
def jb2 (b:BookD) (s:ByteArray):Bs :=
 match jdj b.doms s with
 | some d=>if jef d then domT d else []
 | none=>match jb3 b.tabs s with
  | some t=>if jbd t then jmd t else []
  | none=>[]
def jf0 (b:BookD) (mine:BookD) (gone:List ByteArray):BookD:=mine.tabs.foldl jd1 (mine.doms.foldl jgj (gone.foldl ja2 b))
def jdp (b:BookD):List ByteArray:=b.doms.map (·.1) ++ b.tabs.map (·.name)
def jgw (l:List BookD):List ByteArray:=jay [] (l.flatMap jdp)
structure SessD where
 opn:Bool
 strict:Bool
 frm:Nat
 mine:BookD
 gone:List ByteArray
 read:List ByteArray
def jjn:SessD:=⟨false,false,0,jif,[],[]⟩
structure StoreD where
 later:List BookD
 sess:List SessD
 acts:Nat
def newV:StoreD:=⟨[],[jjn,jjn,jjn,jjn],0⟩
structure ActD where
 kind:Int
 n:Int
 name:ByteArray
 text:ByteArray
 inp:List Int
structure ReplyD where
 code:Int
 n:Int
 text:ByteArray
 answers:List AnsD
 at_:List Int
def jb8 (c:Int):ReplyD:=⟨c,0,noS,[],[]⟩
def numR (n:Int):ReplyD:=⟨0,n,noS,[],[]⟩
def StoreD.states (σ:StoreD):List BookD:=jif :: σ.later
def StoreD.last (σ:StoreD):Nat:=σ.later.length
def StoreD.ver (σ:StoreD) (n:Nat):BookD:=(σ.states[n]?).getD jif
def StoreD.sessN (σ:StoreD) (n:Nat):SessD:=(σ.sess[n]?).getD jjn
def jcp (σ:StoreD) (n:Int):Bool:=decide (0≤n) && decide (n<4) && (σ.sessN n.toNat).opn
def jce (σ:StoreD) (n:Int):SessD:=if jcp σ n then σ.sessN n.toNat else jjn
def jfu (σ:StoreD) (x:SessD):BookD:=jf0 (σ.ver x.frm) x.mine x.gone
def jmt (σ:StoreD) (strict:Int):StoreD × ReplyD :=
 if strict≠0∧strict≠1 then (σ,jb8 2)
 else match σ.sess.findIdx? (fun x=>!x.opn) with
  | none=>(σ,jb8 11)
  | some n=>(⟨σ.later,σ.sess.set n ⟨true,decide (strict=1),σ.last,jif,[],[]⟩,σ.acts⟩,numR n)
def putV (x:SessD) (s:ByteArray):SessD × ReplyD :=
 let r:=jdz s.data.toList
 if r.2.2.2≠0 then (x,jb8 r.2.2.2)
 else if r.2.2.1 then ({ x with mine:=jd1 x.mine r.2.1,gone:=jbg x.gone r.2.1.name },jb8 0)
 else ({ x with mine:=jgj x.mine r.1,gone:=jbg x.gone r.1.1 },jb8 0)
def jky (x:SessD) (s:ByteArray):SessD × ReplyD :=
 if jdr s=false then (x,jb8 1) else ({ x with mine:=ja2 x.mine s,gone:=jbg x.gone s },jb8 0)
def getV (σ:StoreD) (x:SessD) (s:ByteArray):SessD × ReplyD :=
 if jdr s=false then (x,jb8 1)
 else ({ x with read:=jbg x.read s },if jb2 (jfu σ x) s = [] then jb8 3 else ⟨0,0,⟨(jb2 (jfu σ x) s).toArray⟩,[],[]⟩)
def jln (σ:StoreD) (x:SessD):List ByteArray :=
 let r:=jay x.read (jgw [σ.ver x.frm,jfu σ x])
 if x.strict then jbg r noS else r
def jpi (σ:StoreD) (x:SessD) (l:List Int):SessD × ReplyD :=
 ({ x with read:=jln σ x },⟨(askV (jfu σ x) l).2,0,noS,(askV (jfu σ x) l).1,[]⟩)
def jjs (a b:BookD):List ByteArray:=(jgw [a,b]).filter fun s=>decide (jb2 a s≠jb2 b s)
def jk1 (σ:StoreD) (frm:Nat):List ByteArray :=
 jay [] ((List.range (σ.last-frm)).flatMap fun i=>jjs (σ.ver (frm+i)) (σ.ver (frm+i+1)))
def jh1 (x:SessD) (s:ByteArray):Bool:=hasN x.gone s || (x.strict && (hasN x.read s || hasN x.read noS))
def jh0 (σ:StoreD) (x:SessD):Option ByteArray:=(jk1 σ x.frm).find? (jh1 x)
def jer (σ:StoreD) (x:SessD):StoreD × ReplyD :=
 match jh0 σ x with
 | some s=>(σ,⟨9,0,s,[],[]⟩)
 | none =>
  if x.gone.length=0 then (σ,numR σ.last)
  else if 40 ≤ σ.last+1 then (σ,jb8 11)
  else
   let next:=jf0 (σ.ver σ.last) x.mine x.gone
   let r:=ja6 next
   if r.2.2≠0 then (σ,⟨r.2.2,0,r.1,[],r.2.1⟩)
   else (⟨σ.later ++ [next],σ.sess,σ.acts⟩,numR (σ.last+1))
def jaq (σ:StoreD) (n:Nat) (x:SessD):StoreD:=⟨σ.later,σ.sess.set n x,σ.acts⟩
def ja8 (σ:StoreD) (n:Nat) (a:ActD):StoreD × ReplyD :=
 let x:=σ.sessN n
 if a.kind=2 then (jaq σ n (putV x a.text).1,(putV x a.text).2)
 else if a.kind=3 then (jaq σ n (jky x a.name).1,(jky x a.name).2)
 else if a.kind=4 then (jaq σ n (getV σ x a.name).1,(getV σ x a.name).2)
 else if a.kind=5 then (jaq σ n (jpi σ x a.inp).1,(jpi σ x a.inp).2)
 else if a.kind=6 then jer (jaq σ n jjn) x
 else (jaq σ n jjn,jb8 0)
def jbj (σ:StoreD):StoreD:=⟨σ.later,σ.sess,σ.acts+1⟩
def doV (σ:StoreD) (a:ActD):StoreD × ReplyD :=
 if 200 ≤ σ.acts then (σ,jb8 11)
 else if a.kind=1 then jmt (jbj σ) a.n
 else if 2≤a.kind∧a.kind≤7 then
  if jcp σ a.n then ja8 (jbj σ) a.n.toNat a else (jbj σ,jb8 3)
 else (jbj σ,jb8 10)
end Go.Proofs.YthmlndmlnlfhnaaGreatDoor
namespace Go.Proofs
open Go.Shelf
def Tryz.compare_ren:Go.Shelf.Ren:=⟨fun | 106=>99 | 213=>146 | 265=>180 | n=>n,fun | 9=>9 | 3=>3 | n=>n,fun | n=>n⟩
theorem Tryz.compare:Go.Proofs.Lays.n106 Tryz.prog Tryz.compare_ren:={
 mixed:=by kernel_rfl
 f106:=Tryz.func99.trans (congrArg some (by kernel_rfl))
 f213:=Tryz.func146.trans (congrArg some (by kernel_rfl))
 f265:=Tryz.func180.trans (congrArg some (by kernel_rfl))
 t3:=Tryz.underlying3
 a3:=Tryz.isAgg3
 z3:=Tryz.sizeOf3
 v3:=Tryz.zeroValue3
 t9:=Tryz.underlying9
 a9:=Tryz.isAgg9
 z9:=Tryz.sizeOf9
 v9:=Tryz.zeroValue9 }
def Tryz.bsearch_ren:Go.Shelf.Ren:=⟨fun | 26=>154 | 33=>185 | 34=>186 | 38=>208 | n=>n,fun | 24=>39 | 9=>9 | 3=>3 | 4=>4 | 40=>208 | 0=>0 | n=>n,fun | n=>n⟩
theorem Tryz.bsearch:Go.Proofs.Lays2.n26 Tryz.prog Tryz.bsearch_ren:={
 mixed:=by kernel_rfl
 f26:=Tryz.func154.trans (congrArg some (by kernel_rfl))
 f33:=Tryz.func185.trans (congrArg some (by kernel_rfl))
 f34:=Tryz.func186.trans (congrArg some (by kernel_rfl))
 f38:=Tryz.func208.trans (congrArg some (by kernel_rfl))
 t0:=Tryz.underlying0
 a0:=Tryz.isAgg0
 z0:=Tryz.sizeOf0
 v0:=Tryz.zeroValue0
 t3:=Tryz.underlying3
 a3:=Tryz.isAgg3
 z3:=Tryz.sizeOf3
 v3:=Tryz.zeroValue3
 t4:=Tryz.underlying4
 a4:=Tryz.isAgg4
 z4:=Tryz.sizeOf4
 v4:=Tryz.zeroValue4
 t9:=Tryz.underlying9
 a9:=Tryz.isAgg9
 z9:=Tryz.sizeOf9
 v9:=Tryz.zeroValue9
 t24:=Tryz.underlying39
 a24:=Tryz.isAgg39
 z24:=Tryz.sizeOf39
 v24:=Tryz.zeroValue39
 t40:=Tryz.underlying208
 a40:=Tryz.isAgg208
 z40:=Tryz.sizeOf208
 v40:=Tryz.zeroValue208 }
end Go.Proofs
