import Derived.Test.YthmlndmlnlfhnaaGreatDoorKe9058612
set_option maxRecDepth 100000
set_option maxHeartbeats 16000000
namespace Go.Proofs.YthmlndmlnlfhnaaGreatDoor
open Go.Lib (hid)
open Go.RowKit Go.Shelf
def Unf (w:World) (b:Nat):Prop:=∀ o,w.frozen? ⟨b,o,none⟩=false
theorem Unf.of {w w':World} {b:Nat} (hu:Unf w b) (h:w'.heap[b]? = w.heap[b]?):Unf w' b:=fun o=>(World.frozen?_of_block (a:=⟨b,o,none⟩) h).trans (hu o)
def jg7 (lo:Nat) (w:World):Nat→Prop:=fun k=>lo≤k∧k<w.heap.size∧Unf w k
def OffU (lo:Nat) (w:World) (v:Value):Nat→Prop:=fun k=>lo≤k∧k<w.heap.size∧v.ownBlock≠some k∧Unf w k
theorem jk7 {w:World} {base e size n:Nat} {v:Value} {xs:List Value} (h:w.ownsRow base e size v n xs):∀ k,v.ownBlock=some k→jg7 base w k:=fun k hk=>by
 refine ⟨(World.ownsRow.lt h k hk).1,(World.ownsRow.lt h k hk).2,fun o=>?_⟩;rcases h.2 with ⟨rfl,_⟩ | ⟨g,cap,cur,rfl,_,hg,_⟩
 ·cases hk
 ·injection hk with hk;subst hk;exact je3 hg _
theorem jg7.off {w w':World} {lo B:Nat} {v:Value} (hl:lo≤B) (hv:∀ k,v.ownBlock=some k→k<B) (hb:Below w.heap.size w w'):∀ k,jg7 B w k→OffU lo w' v k:=fun k hk =>
 ⟨Nat.le_trans hl hk.1,Nat.lt_of_lt_of_le hk.2.1 hb.size,fun e=>by have:=hv k e;have:=hk.1;omega,hk.2.2.of (hb.block k hk.2.1)⟩
theorem ymm {w:World} {S:Nat→Prop} {l:List (Int × Int)} {us:List Value} (h:jb9 Enc.rng w S l us) (w':World) (S':Nat→Prop):jb9 Enc.rng w' S' l us:=h
theorem Raw.len {w:World} {size n:Nat} {v:Value} {us:List Value} (h:Raw w size v n us):us.length=n*size:=by obtain ⟨_,_,_,_,_,_,h,_⟩:=h;exact h
theorem ygx (l:List (Int × Int)) (v:Value) (w:World) (S:Nat→Prop) (h:Sl Enc.rng w S l v) (hb:l.length*16≤140737488355328) :
  Calls Tryz.prog 159 #[v] w fun e w'=>∃ v',e = .returned v'∧Sl Enc.rng w' (jg7 w.heap.size w') l v'∧Below w.heap.size w w':=by
 obtain ⟨us,hr,he⟩:=h.raw;refine (yjs v l.length us w hr hb).mono ?_;rintro e w' ⟨v',rfl,ho,hb'⟩;have hS:OwnS Enc.rng w' w.heap.size (jg7 w.heap.size w') 87 v' l:=⟨us,ho,ymm he _ _⟩;exact ⟨v',rfl,hS.sl (jk7 ho) (fun _ h=>h),hb'⟩
theorem jrg (l:List ByteArray) (v:Value) (w:World) (S:Nat→Prop) (h:Sl Enc.str w S l v) (hb:l.length*16≤140737488355328) :
  Calls Tryz.prog 81 #[v] w fun e w'=>∃ v',e = .returned v'∧OwnT w' w.heap.size v' l∧Below w.heap.size w w':=by
 obtain ⟨us,hr,he⟩:=h.raw;have e:us=jkb l:=by
  have hl:us.length=l.length:=by have:=hr.len;rw [show Enc.str.size=1 from rfl] at this;omega
  apply List.ext_getElem?;intro j;by_cases hj:j<l.length
  ·obtain ⟨cs,c1,c2⟩:=he j l[j] (List.getElem?_eq_getElem hj);have c1':cs = [.string l[j]]:=c1;subst c1';have:=c2 0 _ rfl
   rw [show Enc.str.size=1 from rfl,Nat.mul_one,Nat.add_zero] at this;rw [this,jkb,List.getElem?_map,List.getElem?_eq_getElem hj];rfl
  ·rw [List.getElem?_eq_none (by omega),List.getElem?_eq_none (by rw [jye];omega)]
 subst e;exact (yju v l.length _ w hr hb)
theorem ygw (l:List DomD) (v:Value) (w:World) (S:Nat→Prop) (h:Sl Enc.dom w S l v) (hb:l.length*32≤140737488355328) :
  Calls Tryz.prog 75 #[v] w fun e w'=>∃ v',e = .returned v'∧w'.ownsRow w.heap.size 58 3 v' l.length (l.flatMap ja0)∧Below w.heap.size w w':=by
 obtain ⟨us,hr,he⟩:=h.raw;have e:us=l.flatMap ja0:=yau he hr.len;subst e;exact (yal v l.length _ w hr hb)
theorem ju1 {w:World} {base:Nat} {v:Value} {l:List DomD} {S:Nat→Prop} (h:w.ownsRow base 58 3 v l.length (l.flatMap ja0)) (hv:∀ k,v.ownBlock=some k→S k):Sl Enc.dom w S l v :=
 OwnS.sl (S:=S) ⟨_,h,yj7 w S l⟩ hv fun _ h=>h
structure CellRow (w0 wr:World) (S:Nat→Prop) (v:Value) (l:List CellD) (k:Nat) (us:List Value):Prop where
 row:wr.ownsRow w0.heap.size 85 2 v l.length us
 at_:∀ i x,l[i]? = some x→∃ u,us[i*2]? = some (.bool x.1)∧us[i*2+1]? = some u∧(i<k→Sl Enc.rng wr (OffU w0.heap.size wr v) x.2 u)∧(k≤i→Sl Enc.rng wr S x.2 u)
theorem jti {w:World} {base e size n g c:Nat} {xs:List Value} (h:w.ownsRow base e size (.slice (some ⟨g,0,none⟩) n c) n xs) {j:Nat} {u:Value} (hu:xs[j]? = some u):w.cell? ⟨g,j,none⟩=some u:=by
 have:=h.cells (g:=g) rfl j u hu
 rwa [Addr.add_lit,Nat.zero_add] at this
theorem jzl {w:World} {base e size n:Nat} {v:Value} {xs:List Value} (h:w.ownsRow base e size v n xs) (hn:0<n):∃ g c cur,v = .slice (some ⟨g,0,none⟩) n c∧base≤g∧g<w.heap.size∧w.heap[g]? = some (.cells cur e (0,0))∧n≤c∧c≤maxLen:=by
 rcases h.2 with ⟨_,h2⟩ | ⟨g,cap,cur,rfl,h3,h4,h5,h6,_⟩
 ·omega
 ·exact ⟨g,cap,cur,rfl,h3,(Array.getElem?_eq_some_iff.1 h4).1,h4,h5,h6⟩
theorem ymn {w:World} {base e size n g c:Nat} {xs:List Value} (h:w.ownsRow base e size (.slice (some ⟨g,0,none⟩) n c) n xs) (j:Nat) (u:Value):(w.setCell ⟨g,j,none⟩ u).ownsRow base e size (.slice (some ⟨g,0,none⟩) n c) n (xs.set j u):=by
 have hl:=h.1;refine ⟨by rw [List.length_set];exact hl,?_⟩;rcases h.2 with ⟨e1,_⟩ | ⟨g',cap,cur,e1,h3,h4,h5,h6,h7,h8⟩
 ·cases e1
 ·injection e1 with a1 a2 a3;injection a1 with a1;injection a1 with a1;subst a1 a3;refine .inr ⟨g,c,cur.setIfInBounds j u,rfl,h3,jm2 h4 j u,h5,h6,by simp [h7],?_⟩;rw [Array.toList_setIfInBounds,← h8,List.take_set]
theorem jvg (l:List CellD) (v:Value) (w:World) (S:Nat→Prop) (h:Sl Enc.cell w S l v) (hS:∀ k,S k→k<w.heap.size) (hb:l.length*32≤140737488355328) (hc:∀ x∈l,x.2.length*16≤140737488355328) :
  Calls Tryz.prog 119 #[v] w fun e w'=>∃ v',e = .returned v'∧Sl Enc.cell w' (jg7 w.heap.size w') l v'∧Below w.heap.size w w':=by
 obtain ⟨us,hr,he⟩:=h.raw;have HR:=hid hr;have HE:=hid he;have HS:=hid hS;have HC:=hid hc;have h':=h;obtain ⟨A,c,rfl,hc1,hc2,-⟩:=h;clear hr he h' hS hc;go_enter Tryz.func119,Tryz.ntmps119
 go_wp2_with fail
 refine (ygv _ l.length us _ HR.out hb).mono ?_;rintro e w1 ⟨v1,rfl,ho1,hb1⟩;have H0:Hid (CellRow w w1 S v1 l 0 us):=⟨ho1,fun i x hx=>by
  obtain ⟨cs,d1,d2⟩:=HE.out i x hx;obtain ⟨u,rfl,hu⟩:=Enc.cell_rd.1 d1;refine ⟨u,d2 0 _ rfl,d2 1 _ rfl,fun h=>absurd h (Nat.not_lt_zero _),fun _=>hu.keep fun p hp=>hb1.cell (HS.out _ hp)⟩⟩
 obtain ⟨A1,c1,rfl,hd1,hd2,-⟩:=jah ho1;unfold maxLen at hd2;clear ho1 HR HE;go_wp2;go_loopw [9] (fun i wr=>∃ (k:Nat) (us:List Value),k≤l.length∧i = .int .i64 k∧Hid (CellRow w wr S (.slice A1 l.length c1) l k us)∧Below w.heap.size w wr) (fun i _=>l.length-(intOf i).toNat)
 case atStart=>exact ⟨0,us,Nat.zero_le _,rfl,H0,hb1⟩
 case round =>
  clear H0 hb1;obtain ⟨k,us,hk,rfl,HK,hbl⟩:=hrel;by_cases hlt:k<l.length
  ·obtain ⟨g,c',cur,e,hg0,hgl,hgc,-,-⟩:=jzl HK.out.row (by omega);injection e with e1 e2 e3;subst e1 e3;have hx:=List.getElem?_eq_getElem hlt;generalize l[k]=x at hx;obtain ⟨u,u0,u1,-,u3⟩:=HK.out.at_ k x hx;have HU:=hid (u3 (Nat.le_refl _));have hxl:=HC.out x (List.mem_of_getElem? hx);obtain ⟨Au,cu,rfl,-,-⟩:=HU.out.form;have l1:=jti HK.out.row u1;have hul:=HK.out.row.1;have HX:=hid hx;have HU1:=hid u1;clear u0 u1 u3 hx;go_wp2_with fail
   refine (ygx x.2 _ _ S HU.out hxl).mono ?_;rintro e w2 ⟨v2,rfl,hs2,hb2⟩;obtain ⟨A2,c2,rfl,-,-⟩:=hs2.form;have HS2:=hid hs2;have hg2:w2.heap[g]? = some (.cells cur 85 (0,0)):=(hb2.block g hgl).trans hgc;have f1:w2.frozen? ⟨g,k*2+1,none⟩=false:=je3 hg2 _;have l2:w2.cell? ⟨g,k*2+1,none⟩=some (.slice Au x.2.length cu):=(hb2.cell (p:=⟨g,k*2+1,none⟩) hgl).trans l1;have R2:Hid (w2.ownsRow w.heap.size 85 2 (.slice (some ⟨g,0,none⟩) l.length c1) l.length us):=ja1 HK.out.row (fun q hq=>by injection hq with hq;subst hq;exact hb2.block _ hgl);have hb02:=bx hbl hb2;have hs2z:=hb2.size;clear hs2 hgc hg2 l1;go_wp2;refine ⟨⟨k+1,us.set (k*2+1) (.slice A2 x.2.length c2),by omega,by go_num,?_,hb02.setCell hg0 _⟩,by simp [intOf];omega⟩;have hset:∀ q,q≠g→(w2.setCell ⟨g,k*2+1,none⟩ (.slice A2 x.2.length c2)).heap[q]? = w2.heap[q]?:=fun q hq=>RowKit.Below.heap_setCell _ _ _ _ hq;have hszs:(w2.setCell ⟨g,k*2+1,none⟩ (.slice A2 x.2.length c2)).heap.size=w2.heap.size:=by simp [World.setCell]
   have hw:=hbl.size;refine ⟨ymn R2.out _ _,fun i y hy=>?_⟩;obtain ⟨uy,y0,y1,y2,y3⟩:=HK.out.at_ i y hy;by_cases hik:i=k
   ·subst hik;have e:=hy.symm.trans HX.out;injection e with e;subst e;refine ⟨.slice A2 y.2.length c2,by rw [List.getElem?_set_ne (by omega)];exact y0,by rw [List.getElem?_set_self (by omega)],fun _=>?_,fun h=>by omega⟩;refine (HS2.out.keep (w':=w2.setCell ⟨g,i*2+1,none⟩ (.slice A2 y.2.length c2)) fun p hp=>World.cell?_of_block (hset _ (by have:=hp.1;omega))).more fun q hq=>⟨by have:=hq.1;omega,by rw [hszs];exact hq.2.1,fun e=>by have e':g=q:=Option.some.inj e;have:=hq.1;omega,hq.2.2.of (hset q (by have:=hq.1;omega))⟩
   ·refine ⟨uy,by rw [List.getElem?_set_ne (by omega)];exact y0,by rw [List.getElem?_set_ne (by omega)];exact y1,fun h=>?_,fun h=>?_⟩
    ·refine ((y2 (by omega)).keep (w':=w2.setCell ⟨g,k*2+1,none⟩ (.slice A2 x.2.length c2)) fun p hp=>World.cell?_of_block ?_).more fun q hq=>⟨hq.1,by rw [hszs];have:=hq.2.1;omega,hq.2.2.1,hq.2.2.2.of ((hset q (fun e=>hq.2.2.1 (by rw [e];rfl))).trans (hb2.block q hq.2.1))⟩;have hpg:p.block≠g:=fun e=>hp.2.2.1 (by rw [e];rfl);rw [hset _ hpg];exact hb2.block _ hp.2.1
    ·refine (y3 (by omega)).keep fun p hp=>World.cell?_of_block ?_;have:=HS.out _ hp
     rw [hset _ (by omega)];exact hb2.block _ (by omega)
  ·obtain rfl:k=l.length:=by omega
   go_wp2;go_ret;refine ⟨_,rfl,?_,hbl⟩;have hS:OwnS Enc.cell wr w.heap.size (OffU w.heap.size wr (.slice A1 l.length c1)) 85 (.slice A1 l.length c1) l:=⟨us,HK.out.row,fun i x hx=>by
    obtain ⟨u,u0,u1,u2,-⟩:=HK.out.at_ i x hx;exact ⟨[.bool x.1,u],Enc.cell_rd.2 ⟨u,rfl,u2 (by have:=(List.getElem?_eq_some_iff.1 hx).1;exact this)⟩,fun j q hq=>by
     match j with
     | 0=>simp at hq;subst hq;exact u0
     | 1=>simp at hq;subst hq;exact u1
     | j+2=>simp at hq⟩⟩
   exact hS.sl (jk7 HK.out.row) (fun k hk=>⟨hk.1,hk.2.1,hk.2.2.2⟩)
structure RuleRow (w0 wr:World) (S:Nat→Prop) (v:Value) (l:List RuleD) (k:Nat) (us:List Value):Prop where
 row:wr.ownsRow w0.heap.size 82 2 v l.length us
 at_:∀ i x,l[i]? = some x→∃ u,us[i*2]? = some u∧us[i*2+1]? = some (.int .i64 x.2)∧(i<k→Sl Enc.cell wr (OffU w0.heap.size wr v) x.1 u)∧(k≤i→Sl Enc.cell wr S x.1 u)
def yan (t:TabD):Prop:=t.ins.length*16≤140737488355328∧t.rules.length*32≤140737488355328∧∀ r,r∈t.rules→r.1.length*32≤140737488355328∧∀ c,c∈r.1→c.2.length*16≤140737488355328
theorem yrw {fn:Func} {p:Tmp} {tmps:Array Value} {W:World} {b:Nat} {x y z u v:Value} (h:fn.results = #[.cell p 56]) (hp:tmps.getD p undef = .pointer (some ⟨b,0,none⟩)) (ht:Cs W b [x,y,z,u,v]) :
  (results fn tmps).run Tryz.prog W = .ok (.agg #[x,y,z,u,v]) W:=by
 have q0:=ht.at 0 rfl;have q1:=ht.at 1 rfl;have q2:=ht.at 2 rfl;have q3:=ht.at 3 rfl;have q4:=ht.at 4 rfl;have hp':tmps[p]?.getD undef = .pointer (some ⟨b,0,none⟩):=by simpa using hp
 simp [results,h,hp',go_sem,q0,q1,q2,q3,q4]
theorem jvh (t:TabD) (v:Value) (w:World) (S:Nat→Prop) (h:ja9 w S t v) (hS:∀ k,S k→k<w.heap.size) (hc:yan t) :
  Calls Tryz.prog 76 #[v] w fun e w'=>∃ v',e = .returned v'∧ja9 w' (jg7 w.heap.size w') t v'∧Below w.heap.size w w':=by
 obtain ⟨nm,pol,comp,ins,rules⟩:=t;obtain ⟨vi,vr,rfl,hi,hr⟩:=h;obtain ⟨hc1,hc2,hc3⟩:=hc;simp only at hi hr hc1 hc2 hc3;have HI:=hid hi;have HRU:=hid hr;have HS:=hid hS;have HC:=hid hc3;obtain ⟨Ai,ci,rfl,hi1,hi2⟩:=hi.form;obtain ⟨Ar,cr,rfl,hr1,hr2⟩:=hr.form;unfold maxLen at hi2 hr2;clear hi hr hS hc3;have hb0:=jac w (.cells #[.string nm,.int .i64 pol,.bool comp,.slice Ai ins.length ci,.slice Ar rules.length cr] 56);have C0:=hid (Cs.new w [.string nm,.int .i64 pol,.bool comp,.slice Ai ins.length ci,.slice Ar rules.length cr] 56);have hz0:(w.alloc (.cells #[.string nm,.int .i64 pol,.bool comp,.slice Ai ins.length ci,.slice Ar rules.length cr] 56)).heap.size=w.heap.size+1:=by simp
 change Hid (Cs (w.alloc (.cells #[.string nm,.int .i64 pol,.bool comp,.slice Ai ins.length ci,.slice Ar rules.length cr] 56)) _ _) at C0;generalize hw0:w.alloc (.cells #[.string nm,.int .i64 pol,.bool comp,.slice Ai ins.length ci,.slice Ar rules.length cr] 56)=w0 at *;have hb1:=jac w0 (.cells #[.string ⟨#[]⟩,.int .i64 0,.bool false,.slice none 0 0,.slice none 0 0] 56);have C1:=hid (Cs.new w0 [.string ⟨#[]⟩,.int .i64 0,.bool false,.slice none 0 0,.slice none 0 0] 56);have hz1:(w0.alloc (.cells #[.string ⟨#[]⟩,.int .i64 0,.bool false,.slice none 0 0,.slice none 0 0] 56)).heap.size=w.heap.size+2:=by simp;omega
 change Hid (Cs (w0.alloc (.cells #[.string ⟨#[]⟩,.int .i64 0,.bool false,.slice none 0 0,.slice none 0 0] 56)) _ _) at C1;rw [hz0] at C1;have C01:=hid (C0.out.next hb1);have hb01:=bx hb0 hb1;generalize hw1:w0.alloc (.cells #[.string ⟨#[]⟩,.int .i64 0,.bool false,.slice none 0 0,.slice none 0 0] 56)=w1 at *;have k3:=C01.out.at 3 rfl;have HI1:Hid (Sl Enc.str w1 S ins (.slice Ai ins.length ci)):=HI.out.keep (fun p hp=>World.cell?_of_block (hb01.block _ (HS.out _ hp)));go_enter Tryz.func76,Tryz.ntmps76
 go_wp2_with fail
 clear hw0 hw1 k3 C0 hb0 hb1;refine (jrg ins _ _ S HI1.out hc1).mono ?_;rintro e w2 ⟨v2,rfl,ho2,hb2⟩;have HO2:=hid ho2;obtain ⟨A2,c2,rfl,-,-,-⟩:=jah ho2;have C02:=hid (C01.out.next hb2);have C12:=hid (C1.out.next hb2);have hb02:=bx hb01 hb2;have hs2:=hb2.size;have q3:=C02.out.at 3 rfl;have f3:=C02.out.2.2 3 (by simp);have C03:=hid (C02.out.set 3 (by simp) (.slice A2 ins.length c2));simp only [List.set_cons_succ,List.set_cons_zero] at C03;have C13:=hid (C12.out.keep (w':=w2.setCell ⟨w.heap.size,3,none⟩ (.slice A2 ins.length c2)) (RowKit.Below.heap_setCell _ _ _ _ (show w.heap.size+1≠w.heap.size by omega)) (by simp [World.setCell]));have hz3:(w2.setCell ⟨w.heap.size,3,none⟩ (.slice A2 ins.length c2)).heap.size=w2.heap.size:=by simp [World.setCell]
 have hbs:Below w.heap.size w (w2.setCell ⟨w.heap.size,3,none⟩ (.slice A2 ins.length c2)):=hb02.setCell (Nat.le_refl _) _;have HO3:Hid (OwnT (w2.setCell ⟨w.heap.size,3,none⟩ (.slice A2 ins.length c2)) w1.heap.size (.slice A2 ins.length c2) ins):=HO2.out.keep (fun g hg=>RowKit.Below.heap_setCell _ _ _ _ (show g≠w.heap.size by have:=(HO2.out.lt g hg).1;omega));have q4:=C03.out.at 4 rfl;clear ho2;go_wp2_with fail
 generalize hw3:w2.setCell ⟨w.heap.size,3,none⟩ (.slice A2 ins.length c2)=w3 at *;clear hw3 q3 f3 q4 C02 C12;have HR3:Hid (Sl Enc.rule w3 S rules (.slice Ar rules.length cr)):=HRU.out.keep (fun p hp=>World.cell?_of_block (hbs.block _ (HS.out _ hp)));obtain ⟨us,hus,heu⟩:=HR3.out.raw;have HU:=hid hus;have HEU:=hid heu;clear hus heu;refine (ygy _ rules.length us _ HU.out hc2).mono ?_;rintro e w4 ⟨v4,rfl,ho4,hb4⟩;have H0:Hid (RuleRow w3 w4 S v4 rules 0 us):=⟨ho4,fun i x hx=>by
  obtain ⟨cs,d1,d2⟩:=HEU.out i x hx;obtain ⟨u,rfl,hu⟩:=Enc.rule_rd.1 d1;refine ⟨u,d2 0 _ rfl,d2 1 _ rfl,fun h=>absurd h (Nat.not_lt_zero _),fun _=>hu.keep fun p hp=>hb4.cell (by have:=HS.out _ hp;omega)⟩⟩
 obtain ⟨A4,c4,rfl,hd1,hd2,-⟩:=jah ho4;unfold maxLen at hd2;have C04:=hid (C03.out.next hb4);have C14:=hid (C13.out.next hb4);have hs4:=hb4.size;have hb04:Below w.heap.size w w4:=hbs.trans (hb4.mono (by omega));have HO4:Hid (OwnT w4 w1.heap.size (.slice A2 ins.length c2) ins):=HO3.out.keep (fun g hg=>hb4.block g (HO3.out.lt g hg).2);have HLT:Hid (∀ k,(Value.slice A2 ins.length c2).ownBlock=some k→w1.heap.size≤k∧k<w3.heap.size):=fun k hk=>HO3.out.lt k hk;have HL4:Hid (∀ k,(Value.slice A4 rules.length c4).ownBlock=some k→w3.heap.size≤k):=fun k hk=>(World.ownsRow.lt ho4 k hk).1;clear ho4 HU HEU HR3 HO3 C03 C13 hb4;have q4:=C04.out.at 4 rfl;have f4:=C04.out.2.2 4 (by simp);have C05:=hid (C04.out.set 4 (by simp) (.slice A4 rules.length c4));simp only [List.set_cons_succ,List.set_cons_zero] at C05;have C15:=hid (C14.out.keep (w':=w4.setCell ⟨w.heap.size,4,none⟩ (.slice A4 rules.length c4)) (RowKit.Below.heap_setCell _ _ _ _ (show w.heap.size+1≠w.heap.size by omega)) (by simp [World.setCell]));have hz5:(w4.setCell ⟨w.heap.size,4,none⟩ (.slice A4 rules.length c4)).heap.size=w4.heap.size:=by simp [World.setCell]
 have hb05:Below w.heap.size w (w4.setCell ⟨w.heap.size,4,none⟩ (.slice A4 rules.length c4)):=hb04.setCell (Nat.le_refl _) _;have HO5:Hid (OwnT (w4.setCell ⟨w.heap.size,4,none⟩ (.slice A4 rules.length c4)) w1.heap.size (.slice A2 ins.length c2) ins):=HO4.out.keep (fun g hg=>RowKit.Below.heap_setCell _ _ _ _ (show g≠w.heap.size by have:=(HLT.out g hg).1;omega));have H5:Hid (RuleRow w3 (w4.setCell ⟨w.heap.size,4,none⟩ (.slice A4 rules.length c4)) S (.slice A4 rules.length c4) rules 0 us):=⟨ja1 H0.out.row (fun g hg=>RowKit.Below.heap_setCell _ _ _ _ (show g≠w.heap.size by have:=HL4.out g hg;omega)),fun i x hx=>by
  obtain ⟨u,u0,u1,u2,u3⟩:=H0.out.at_ i x hx;exact ⟨u,u0,u1,fun h=>absurd h (Nat.not_lt_zero _),fun h=>(u3 h).keep fun p hp=>World.cell?_of_block (RowKit.Below.heap_setCell _ _ _ _ (show p.block≠w.heap.size by have:=HS.out _ hp;omega))⟩⟩
 have q5:=C05.out.at 4 rfl;go_wp2_with fail
 generalize hw5:w4.setCell ⟨w.heap.size,4,none⟩ (.slice A4 rules.length c4)=w5 at *;clear hw5 q4 f4 q5 C04 C14 HO4 H0 hb04 hbs hb02;go_loopw [15] (fun i wr=>∃ (k:Nat) (us:List Value),k≤rules.length∧i = .int .i64 k∧Hid (RuleRow w3 wr S (.slice A4 rules.length c4) rules k us)∧Hid (OwnT wr w1.heap.size (.slice A2 ins.length c2) ins)∧Hid (Cs wr w.heap.size [.string nm,.int .i64 pol,.bool comp,.slice A2 ins.length c2,.slice A4 rules.length c4])∧Hid (Cs wr (w.heap.size+1) [.string ⟨#[]⟩,.int .i64 0,.bool false,.slice none 0 0,.slice none 0 0])∧Below w.heap.size w wr∧w3.heap.size≤wr.heap.size) (fun i _=>rules.length-(intOf i).toNat)
 case atStart=>exact ⟨0,us,Nat.zero_le _,rfl,H5,HO5,C05,C15,hb05,by omega⟩
 case round =>
  clear H5 HO5 C05 C15 hb05;obtain ⟨k,us,hk,rfl,HK,HOr,CB,CR,hbl,hw3r⟩:=hrel;by_cases hlt:k<rules.length
  ·obtain ⟨g,c',cur,e,hg0,hgl,hgc,-,-⟩:=jzl HK.out.row (by omega);injection e with e1 e2 e3;subst e1 e3;have hx:=List.getElem?_eq_getElem hlt;generalize rules[k]=x at hx;obtain ⟨u,u0,u1,-,u3⟩:=HK.out.at_ k x hx;have HU:=hid (u3 (Nat.le_refl _));have hxl:=hid (HC.out x (List.mem_of_getElem? hx));obtain ⟨Au,cu,rfl,-,-⟩:=HU.out.form;have l1:wr.drew.cell? ⟨g,k*2,none⟩=some (.slice Au x.1.length cu):=jti HK.out.row u0;have b4:wr.drew.cell? ⟨w.heap.size,4,none⟩=some (.slice (some ⟨g,0,none⟩) rules.length c4):=CB.out.at 4 rfl;have hul:=HK.out.row.1;have HX:=hid hx;have HUd:Hid (Sl Enc.cell wr.drew S x.1 (.slice Au x.1.length cu)):=HU.out.keep fun _ _=>rfl;clear u0 u1 u3 hx;have hk0:(0:Int)≤(k:Int):=by omega
   have hk1:(k:Int)<(rules.length:Int):=by omega
   go_wp2_with fail
   go_region_law (first
    | (go_simp;go_at_call 119;refine (jvg x.1 _ _ S HUd.out (fun q hq=>by have:=HS.out q hq;have:=hbl.size;show q<wr.heap.size;omega) hxl.out.1 hxl.out.2).mono ?_;rintro e w6 ⟨v6,rfl,hs6,hb6'⟩;have hb6:Below wr.heap.size wr w6:=jcw hb6';obtain ⟨A6,c6,rfl,-,-⟩:=hs6.form;have HS6:Hid (Sl Enc.cell w6 (jg7 wr.heap.size w6) x.1 (.slice A6 x.1.length c6)):=hs6;have m4:w6.cell? ⟨w.heap.size,4,none⟩=some (.slice (some ⟨g,0,none⟩) rules.length c4):=(hb6.cell (p:=⟨w.heap.size,4,none⟩) CB.out.1).trans b4;have n1:w6.cell? ⟨g,k*2,none⟩=some (.slice Au x.1.length cu):=(hb6.cell (p:=⟨g,k*2,none⟩) hgl).trans l1;have hg6:w6.heap[g]? = some (.cells cur 82 (0,0)):=(hb6.block g hgl).trans hgc;have f1:w6.frozen? ⟨g,k*2,none⟩=false:=je3 hg6 _;clear hs6 hb6' hg6))
   all_goals go_wp2
   all_goals
    have hgw:g≠w.heap.size:=by omega
    have hs6:=hb6.size;have hset:∀ q,q≠g→(w6.setCell ⟨g,k*2,none⟩ (.slice A6 x.1.length c6)).heap[q]? = w6.heap[q]?:=fun q hq=>RowKit.Below.heap_setCell _ _ _ _ hq;have hszs:(w6.setCell ⟨g,k*2,none⟩ (.slice A6 x.1.length c6)).heap.size=w6.heap.size:=by simp [World.setCell]
    have R6:w6.ownsRow w3.heap.size 82 2 (.slice (some ⟨g,0,none⟩) rules.length c4) rules.length us:=ja1 HK.out.row (fun q hq=>by injection hq with hq;subst hq;exact hb6.block _ hgl);refine ⟨⟨k+1,us.set (k*2) (.slice A6 x.1.length c6),by omega,by go_num,?_,?_,?_,?_,(bx hbl hb6).setCell (by show w.heap.size≤g;omega) _,by omega⟩,by simp [intOf];omega⟩
    ·refine ⟨ymn R6 _ _,fun i y hy=>?_⟩;obtain ⟨uy,y0,y1,y2,y3⟩:=HK.out.at_ i y hy;by_cases hik:i=k
     ·subst hik;have e:=hy.symm.trans HX.out;injection e with e;subst e;refine ⟨.slice A6 y.1.length c6,by rw [List.getElem?_set_self (by omega)],by rw [List.getElem?_set_ne (by omega)];exact y1,fun _=>?_,fun h=>by omega⟩;refine (HS6.out.keep (w':=w6.setCell ⟨g,i*2,none⟩ (.slice A6 y.1.length c6)) fun p hp=>World.cell?_of_block (hset _ (by have:=hp.1;omega))).more fun q hq=>⟨by have:=hq.1;omega,by rw [hszs];exact hq.2.1,fun e=>by have e':g=q:=Option.some.inj e;have:=hq.1;omega,hq.2.2.of (hset q (by have:=hq.1;omega))⟩
     ·refine ⟨uy,by rw [List.getElem?_set_ne (by omega)];exact y0,by rw [List.getElem?_set_ne (by omega)];exact y1,fun h=>?_,fun h=>?_⟩
      ·refine ((y2 (by omega)).keep (w':=w6.setCell ⟨g,k*2,none⟩ (.slice A6 x.1.length c6)) fun p hp=>World.cell?_of_block ?_).more fun q hq=>⟨hq.1,by rw [hszs];have:=hq.2.1;omega,hq.2.2.1,hq.2.2.2.of ((hset q (fun e=>hq.2.2.1 (by rw [e];rfl))).trans (hb6.block q hq.2.1))⟩;have hpg:p.block≠g:=fun e=>hp.2.2.1 (by rw [e];rfl);rw [hset _ hpg];exact hb6.block _ hp.2.1
      ·refine (y3 (by omega)).keep fun p hp=>World.cell?_of_block ?_;have:=HS.out _ hp
       have:=hbl.size
       rw [hset _ (by omega)];exact hb6.block _ (by omega)
    ·exact HOr.out.keep (fun q hq=>by
      have:=HLT.out q hq
      rw [hset q (by omega),hb6.block q (by omega)])
    ·exact CB.out.keep ((hset _ (by omega)).trans (hb6.block _ CB.out.1)) (by omega)
    ·exact CR.out.keep ((hset _ (by omega)).trans (hb6.block _ CR.out.1)) (by omega)
  ·obtain rfl:k=rules.length:=by omega
   have b0:=CB.out.at 0 rfl;have b1:=CB.out.at 1 rfl;have b2:=CB.out.at 2 rfl;have b3:=CB.out.at 3 rfl;have b4:=CB.out.at 4 rfl;have r0:=CR.out.at 0 rfl;have r1:=CR.out.at 1 rfl;have r2:=CR.out.at 2 rfl;have r3:=CR.out.at 3 rfl;have r4:=CR.out.at 4 rfl;have f0:=CR.out.2.2 0 (by simp);have f1:=CR.out.2.2 1 (by simp);have f2:=CR.out.2.2 2 (by simp);have f3:=CR.out.2.2 3 (by simp);have f4:=CR.out.2.2 4 (by simp);go_wp2
   (try simp only [Exit.inBlock,Exit.then])
   refine bodyPost_ret (yrw (b:=w.heap.size+1) rfl rfl (((((CR.out.set 0 (by simp) _).set 1 (by simp) _).set 2 (by simp) _).set 3 (by simp) _).set 4 (by simp) _)) rfl ⟨_,rfl,?_,((((hbl.setCell (by simp) _).setCell (by simp) _).setCell (by simp) _).setCell (by simp) _).setCell (by simp) _⟩;have hset:∀ q,q≠w.heap.size+1→(put5 wr (w.heap.size+1) (.string nm) (.int .i64 pol) (.bool comp) (.slice A2 ins.length c2) (.slice A4 rules.length c4)).heap[q]? = wr.heap[q]?:=fun q hq=>jhm _ _ _ _ _ _ _ _ hq;have hszs:(put5 wr (w.heap.size+1) (.string nm) (.int .i64 pol) (.bool comp) (.slice A2 ins.length c2) (.slice A4 rules.length c4)).heap.size=wr.heap.size:=by simp [put5,World.setCell]
   have hi':Sl Enc.str wr (jg7 w1.heap.size wr) ins (.slice A2 ins.length c2):=HOr.out.sl (jk7 HOr.out);have hr':Sl Enc.rule wr (jg7 w1.heap.size wr) rules (.slice A4 rules.length c4):=by
    have hS:OwnS Enc.rule wr w3.heap.size (OffU w3.heap.size wr (.slice A4 rules.length c4)) 82 (.slice A4 rules.length c4) rules:=⟨us,HK.out.row,fun i x hx=>by
     obtain ⟨u,u0,u1,u2,-⟩:=HK.out.at_ i x hx;exact ⟨[u,.int .i64 x.2],Enc.rule_rd.2 ⟨u,rfl,u2 (by have:=(List.getElem?_eq_some_iff.1 hx).1;exact this)⟩,fun j q hq=>by
      match j with
      | 0=>simp at hq;subst hq;exact u0
      | 1=>simp at hq;subst hq;exact u1
      | j+2=>simp at hq⟩⟩
    exact hS.sl (fun q hq=>by have:=jk7 HK.out.row q hq;exact ⟨by have:=this.1;omega,this.2⟩) (fun q hq=>⟨by have:=hq.1;omega,hq.2.1,hq.2.2.2⟩)
   show ja9 (put5 wr (w.heap.size+1) (.string nm) (.int .i64 pol) (.bool comp) (.slice A2 ins.length c2) (.slice A4 rules.length c4)) (jg7 w.heap.size (put5 wr (w.heap.size+1) (.string nm) (.int .i64 pol) (.bool comp) (.slice A2 ins.length c2) (.slice A4 rules.length c4))) ⟨nm,pol,comp,ins,rules⟩ _
   refine ⟨_,_,rfl,?_,?_⟩
   ·exact (hi'.keep fun p hp=>World.cell?_of_block (hset _ (by have:=hp.1;omega))).more fun q hq=>⟨by have:=hq.1;omega,by rw [hszs];exact hq.2.1,hq.2.2.of (hset q (by have:=hq.1;omega))⟩
   ·exact (hr'.keep fun p hp=>World.cell?_of_block (hset _ (by have:=hp.1;omega))).more fun q hq=>⟨by have:=hq.1;omega,by rw [hszs];exact hq.2.1,hq.2.2.of (hset q (by have:=hq.1;omega))⟩
theorem yps:Tryz.prog.underlying 36=some (.slice 56):=by kernel_rfl
theorem yrx:(Tryz.prog.info? 56).map (fun i=>(i.zero,i.size,i.bytes))=some (some (.agg #[.string ⟨#[]⟩,.int .i64 0,.bool false,.slice none 0 0,.slice none 0 0]),5,80):=by kernel_rfl
theorem jwo (w:World) (x y z u v:Value) (e:Nat):∀ j q,[x,y,z,u,v][j]? = some q→(w.alloc (.cells #[x,y,z,u,v] e)).cell? ((⟨w.heap.size,0,none⟩:Addr).add j)=some q:=by
 intro j q hq;rw [Addr.add_lit,Nat.zero_add];exact jab _ _ _ _ _ (by simpa using hq)
theorem jig {A B:Nat} {a b c:World} (h:Below A a b) (h':Below B b c) (hAB:A≤B):Below A a c:=h.trans (h'.mono hAB)
abbrev OwnU {α:Type} (E:Enc α) (w:World) (base lo e:Nat) (v:Value) (l:List α):Prop:=OwnS E w base (OffU lo w v) e v l
theorem OwnS.form {α:Type} {E:Enc α} {w:World} {base e:Nat} {S:Nat→Prop} {v:Value} {l:List α} (h:OwnS E w base S e v l):∃ A c,v = .slice A l.length c∧l.length≤c∧c≤maxLen∧(A=none→c=0):=by obtain ⟨us,h1,_⟩:=h;exact jah h1
theorem OwnU.next {α:Type} {E:Enc α} {w w':World} {base lo e:Nat} {v:Value} {l:List α} (h:OwnU E w base lo e v l) (hb:Below w.heap.size w w'):OwnU E w' base lo e v l :=
 (OwnS.keep h (fun k hk=>hb.block k (OwnS.lt h k hk).2) (fun k hk=>hb.block k hk.2.1)).more fun k hk=>⟨hk.1,Nat.lt_of_lt_of_le hk.2.1 hb.size,hk.2.2.1,hk.2.2.2.of (hb.block k hk.2.1)⟩
theorem OwnU.setCell {α:Type} {E:Enc α} {w:World} {base lo e b o:Nat} {v x:Value} {l:List α} (h:OwnU E w base lo e v l) (hb:b<lo) (hv:v.ownBlock≠some b):OwnU E (w.setCell ⟨b,o,none⟩ x) base lo e v l:=by
 have hk:∀ k,k≠b→(w.setCell ⟨b,o,none⟩ x).heap[k]? = w.heap[k]?:=fun k hk=>RowKit.Below.heap_setCell _ _ _ _ hk;exact (OwnS.keep h (fun k hk'=>hk k (fun e=>hv (e ▸ hk'))) (fun k hk'=>hk k (by have:=hk'.1;omega))).more fun k hk'=>⟨hk'.1,by simp [World.setCell];exact hk'.2.1,hk'.2.2.1,hk'.2.2.2.of (hk k (by have:=hk'.1;omega))⟩
theorem OwnU.sl {α:Type} {E:Enc α} {w:World} {base lo e:Nat} {v:Value} {l:List α} (h:OwnU E w base lo e v l) (hb:lo≤base):Sl E w (jg7 lo w) l v:=by
 have h':=h;obtain ⟨us,h1,_⟩:=h';exact OwnS.sl h (fun k hk=>by have:=jk7 h1 k hk;exact ⟨Nat.le_trans hb this.1,this.2⟩) (fun k hk=>⟨hk.1,hk.2.1,hk.2.2.2⟩)
theorem OffU.grown {w w':World} {lo:Nat} {v v':Value} (hg:w.grownBy w' v.ownBlock) (hm:jed w v v'):∀ k,OffU lo w v k→OffU lo w' v' k∧w'.heap[k]? = w.heap[k]?:=fun k hk=>by
 have e:=hg.block k hk.2.1 (fun e=>hk.2.2.1 e.symm);exact ⟨⟨hk.1,Nat.lt_of_lt_of_le hk.2.1 hg.size,fun e'=>(hm k e').elim hk.2.2.1 (fun h=>by have:=hk.2.1;omega),hk.2.2.2.of e⟩,e⟩
theorem OwnU.grown {α:Type} {E:Enc α} {w w':World} {base lo e:Nat} {v v':Value} {l:List α} {y:α} {us cs:List Value} (h1:w.ownsRow base e E.size v l.length us) (h2:jb9 E w (OffU lo w v) l us) (ho:w'.ownsRow base e E.size v' (l.length+1) (us ++ cs)) (hg:w.grownBy w' v.ownBlock) (hm:jed w v v') (hy:E.rd w (OffU lo w v) y cs):OwnU E w' base lo e v' (l ++ [y]) :=
 ⟨us ++ cs,by rw [List.length_append];exact ho,((h2.append (jb9.one hy) h1.1).keep (w':=w') fun p hp=>World.cell?_of_block (OffU.grown hg hm _ hp).2).more fun k hk=>(OffU.grown hg hm k hk).1⟩
theorem jzo {α:Type} {E:Enc α} {P:Program} {ops:Array Oper} {o:Oper} {a:Act} {w:World} {K:Act→World→Prop} {Q:Exit→Act→World→Prop} {X:Prop}
  (hg:o.guard=none) (s x:Operand) (t:TypeId) (ho:o.op=Op.call { callee:=Callee.builtin Builtin.append,args:=#[s,x],argTypes:=#[t,t] })
  (base lo:Nat) (e:TypeId) (bytes:Nat) (z:Value) (ht:P.underlying t=some (.slice e)) (hinfo:(P.info? e).map (fun i=>(i.zero,i.size,i.bytes))=some (some z,E.size,bytes)) (hzs:z.cells.size=E.size) (hsz:0<E.size)
  (v:Value) (l:List α) (hs:a.eval s=v) (hown:OwnU E w base lo e v l)
  (ad:Addr) (y:α) (cs:List Value) (hx:a.eval x = .slice (some ad) 1 1) (hy:E.rd w (OffU lo w v) y cs) (hnews:∀ j u,cs[j]? = some u→w.cell? (ad.add j)=some u)
  (hbytes:(l.length+1)*bytes≤140737488355328) (h63:l.length+1≤maxLen) (hbase:base≤w.heap.size)
  (h:∀ v' w',OwnU E w' base lo e v' (l ++ [y])→w.grownBy w' v.ownBlock→jed w v v'→K (a.put o.dst v') w') :
  if Region.wanted o (yielded ops a.tmps)=true then Oper.wp P o a w K Q else X:=by
 have hw:Region.wanted o (yielded ops a.tmps)=true:=by simp [Region.wanted,hg]
 rw [if_pos hw];obtain ⟨us,h1,h2⟩:=hown;obtain ⟨v',w',hr,ho',hg',hmv⟩:=jia (P:=P) w base t o.type e E.size bytes z ht hinfo hzs hsz v l.length us h1 ad 1 1 cs (by rw [E.len hy];omega) hnews (E.one hy) h63 hbytes hbase;unfold Oper.wp execOp;simp only [ho,resolve,invoke,builtin,Sem.run_bind,Sem.run_pure,Result.andThen_ok,List.map_toArray,List.map_cons,List.map_nil,hs,hx,hr];exact h v' w' (OwnU.grown h1 h2 ho' hg' hmv hy) hg' hmv
theorem jvq {α:Type} {E:Enc α} {P:Program} (w:World) {ops:Array Oper} {rest:List Oper} {o:Oper} {a:Act} {Q:Exit→Act→World→Prop} (hgd:o.guard=none) (s x:Operand) (t:TypeId)
  (ho:o.op = .call { callee:=.builtin .append,args:=#[s,x],argTypes:=#[t,t] })
  (base lo:Nat) (e:TypeId) (bytes:Nat) (z:Value) (ht:P.underlying t=some (.slice e)) (hinfo:(P.info? e).map (fun i=>(i.zero,i.size,i.bytes))=some (some z,E.size,bytes)) (hzs:z.cells.size=E.size) (hsz:0<E.size)
  (v:Value) (l:List α) (hs:a.eval s=v) (hown:OwnU E w base lo e v l)
  (ad:Addr) (y:α) (cs:List Value) (hx:a.eval x = .slice (some ad) 1 1) (hy:E.rd w (OffU lo w v) y cs) (hnews:∀ j u,cs[j]? = some u→w.cell? (ad.add j)=some u)
  (hbytes:(l.length+1)*bytes≤140737488355328) (h63:l.length+1≤maxLen) (hbase:base≤w.heap.size)
  (h:∀ v' w',OwnU E w' base lo e v' (l ++ [y])→w.grownBy w' v.ownBlock→jed w v v'→wpList P ops Q rest (a.put o.dst v') w'):wpList P ops Q (o :: rest) a w:=by
 obtain ⟨us,h1,h2⟩:=hown;refine jav w hgd s x t ho base e E.size bytes z ht hinfo hzs hsz v l.length us hs h1 ad 1 1 cs hx (by rw [E.len hy];omega) hnews (E.one hy) h63 hbytes hbase ?_;intro v' w' ho' hg' hm;exact h v' w' (OwnU.grown h1 h2 ho' hg' hm hy) hg' hm
def yq3 (b:BookD):Prop:=b.doms.length*32≤140737488355328∧b.tabs.length*80≤140737488355328∧∀ t,t∈b.tabs→yan t
theorem jkt (b:BookD) (v:Value) (w:World) (S:Nat→Prop) (h:jar w S b v) (hS:∀ k,S k→k<w.heap.size) (hc:yq3 b) :
  Calls Tryz.prog 46 #[v] w fun e w'=>∃ u,e = .returned u∧jar w' (jg7 w.heap.size w') b u∧Below w.heap.size w w':=by
 obtain ⟨hd,ht,hc⟩:=hc;have HC:=hid hc;have HS:=hid hS;clear hc hS;obtain ⟨vd,vt,rfl,h1,h2⟩:=h;have HD:=hid h1;have HTS:=hid h2;obtain ⟨A,c,rfl,hc1,hc2,-⟩:=h1;obtain ⟨B,d,rfl,hd1,hd2,-⟩:=h2;unfold maxLen at hc2 hd2;have hb0:=jaa w (.cells #[.slice A b.doms.length c,.slice B b.tabs.length d] 38);have C0:=hid (Cs.new w [.slice A b.doms.length c,.slice B b.tabs.length d] 38);have hz0:(w.alloc (.cells #[.slice A b.doms.length c,.slice B b.tabs.length d] 38)).heap.size=w.heap.size+1:=by simp
 change Hid (Cs (w.alloc (.cells #[.slice A b.doms.length c,.slice B b.tabs.length d] 38)) _ _) at C0;generalize hw0:w.alloc (.cells #[.slice A b.doms.length c,.slice B b.tabs.length d] 38)=w0 at *;have hb1:=jaa w0 (.cells #[.slice none 0 0,.slice none 0 0] 38);have C1:=hid (Cs.new w0 [.slice none 0 0,.slice none 0 0] 38);have hz1:(w0.alloc (.cells #[.slice none 0 0,.slice none 0 0] 38)).heap.size=w.heap.size+2:=by simp;omega
 change Hid (Cs (w0.alloc (.cells #[.slice none 0 0,.slice none 0 0] 38)) _ _) at C1;rw [hz0] at C1;have C01:=hid (C0.out.next hb1);have hb01:=bx hb0 hb1;generalize hw1:w0.alloc (.cells #[.slice none 0 0,.slice none 0 0] 38)=w1 at *;have k0:=C01.out.at 0 rfl;have HD1:Hid (Sl Enc.dom w1 S b.doms (.slice A b.doms.length c)):=HD.out.keep (fun p hp=>World.cell?_of_block (hb01.block _ (HS.out _ hp)));go_enter Tryz.func46,Tryz.ntmps46
 go_wp2_with fail
 refine (ygw b.doms _ _ S HD1.out hd).mono ?_;rintro e w2 ⟨v1,rfl,hown1,hb2⟩;obtain ⟨A1,c1',rfl,-,-,-⟩:=jah hown1;have C02:=hid (C01.out.next hb2);have hb3:=jaa w2 (.cells #[.slice A1 b.doms.length c1',.slice none 0 0] 38);have C03:=hid (C02.out.next hb3);have p1:=C03.out.at 1 rfl;have HS1:Hid (Sl Enc.dom w2 (jg7 w1.heap.size w2) b.doms (.slice A1 b.doms.length c1')):=ju1 hown1 (jk7 hown1);have HU3:Hid (∀ q,jg7 w1.heap.size w2 q→Unf (w2.alloc (.cells #[.slice A1 b.doms.length c1',.slice none 0 0] 38)) q):=fun q hq=>hq.2.2.of (hb3.block q hq.2.1);have CX:=hid (Cs.new w2 [.slice A1 b.doms.length c1',.slice none 0 0] 38);change Hid (Cs (w2.alloc (.cells #[.slice A1 b.doms.length c1',.slice none 0 0] 38)) _ _) at CX;have hz3:(w2.alloc (.cells #[.slice A1 b.doms.length c1',.slice none 0 0] 38)).heap.size=w2.heap.size+1:=by simp
 have HS3:=hid (HS1.out.keep (w':=w2.alloc (.cells #[.slice A1 b.doms.length c1',.slice none 0 0] 38)) (fun p hp=>hb3.cell hp.2.1));have C13:=hid ((C1.out.next hb2).next hb3);have hb03:=bx hb01 (bx hb2 hb3);have hsz2:=hb2.size;clear k0;go_wp2_with fail
 generalize hw3:w2.alloc (.cells #[.slice A1 b.doms.length c1',.slice none 0 0] 38)=w3 at *;clear hown1 HS1 hw0 hw1 HD1;go_loopw [13] (fun i wr=>∃ (k:Nat) (vt:Value),k≤b.tabs.length∧i = .int .i64 k∧Hid (OwnU Enc.tab wr w3.heap.size w3.heap.size 56 vt (b.tabs.take k))∧Hid (∀ q,jg7 w1.heap.size w2 q→Unf wr q)∧Hid (Sl Enc.dom wr (jg7 w1.heap.size w2) b.doms (.slice A1 b.doms.length c1'))∧Hid (Cs wr w2.heap.size [.slice A1 b.doms.length c1',vt])∧Hid (Cs wr (w.heap.size+1) [.slice none 0 0,.slice none 0 0])∧w3.heap.size≤wr.heap.size∧Below w.heap.size w wr) (fun i _=>b.tabs.length-(intOf i).toNat)
 case atStart=>exact ⟨0,.slice none 0 0,Nat.zero_le _,rfl,OwnS.nil,HU3,HS3,CX,C13,Nat.le_refl _,hb03⟩
 case round =>
  clear HU3 HS3 CX C13 hb03 p1 hb2 hb3 C02 C03 hw3 hb01 hb0 hb1 C0 C01 C1;obtain ⟨k,vt,hk,rfl,HO,HUU,HSS,CX,CR,hsz,hb⟩:=hrel;by_cases hlt:k<b.tabs.length
  ·obtain ⟨bb,o,nm,pol,comp,ins,rules,vi,vr,rfl,hSb,hx,c1,c2,c3,c4,c5,hi,hr⟩:=(HTS.out.keep (w':=wr) (fun p hp=>World.cell?_of_block (hb.block _ (HS.out _ hp)))).tab_at hlt;have HT0:Hid (ja9 wr S ⟨nm,pol,comp,ins,rules⟩ (.agg #[.string nm,.int .i64 pol,.bool comp,vi,vr])):=⟨_,_,rfl,hi,hr⟩;obtain ⟨Ai,ci,rfl,-,-⟩:=hi.form;obtain ⟨Ar,cr,rfl,-,-⟩:=hr.form;clear hi hr;have HCT:=hid (HC.out _ (List.mem_of_getElem? hx.out));have hbz:=jaa wr (.cells #[.string nm,.int .i64 pol,.bool comp,.slice Ai ins.length ci,.slice Ar rules.length cr] 56);have CN:=hid (Cs.new wr [.string nm,.int .i64 pol,.bool comp,.slice Ai ins.length ci,.slice Ar rules.length cr] 56);change Hid (Cs (wr.alloc (.cells #[.string nm,.int .i64 pol,.bool comp,.slice Ai ins.length ci,.slice Ar rules.length cr] 56)) _ _) at CN;have hszr:=hb.size;have HTz:Hid (ja9 (wr.alloc (.cells #[.string nm,.int .i64 pol,.bool comp,.slice Ai ins.length ci,.slice Ar rules.length cr] 56)) S ⟨nm,pol,comp,ins,rules⟩ (.agg #[.string nm,.int .i64 pol,.bool comp,.slice Ai ins.length ci,.slice Ar rules.length cr])):=HT0.out.keepS (fun q hq=>hbz.block q (by have:=HS.out q hq;omega));have CXz:=hid (CX.out.next hbz);have q0:=CN.out.at 0 rfl;have q1:=CN.out.at 1 rfl;have q2:=CN.out.at 2 rfl;have q3:=CN.out.at 3 rfl;have q4:=CN.out.at 4 rfl;have x1z:=CXz.out.at 1 rfl;generalize hwz:wr.alloc (.cells #[.string nm,.int .i64 pol,.bool comp,.slice Ai ins.length ci,.slice Ar rules.length cr] 56)=wz at *;have hbzd:Below wz.heap.size wz wz.drew:=(Below.refl _ _).drew;have HTd:Hid (ja9 wz.drew S ⟨nm,pol,comp,ins,rules⟩ (.agg #[.string nm,.int .i64 pol,.bool comp,.slice Ai ins.length ci,.slice Ar rules.length cr])):=HTz.out.keepS (fun q hq=>rfl);have hSd:Hid (∀ q,S q→q<wz.drew.heap.size):=fun q hq=>by
    have:=HS.out q hq
    have:=hbz.size
    show q<wz.heap.size
    omega
   have hbzd2:=bx hbz hbzd;have hN:(b.tabs.take k).length=k:=by rw [List.length_take];omega
   have HN:=hid hN;have HTK:=hid (jai hx.out);have HN8:Hid ((b.tabs.take (k+1)).length=k+1):=by show _=_;rw [List.length_take];omega
   have hk80:(k+1)*80≤140737488355328:=by omega
   clear hN;go_wp2_with fail
   clear hwz;go_region_law (first
    | (go_simp;go_at_call 76;refine (jvh ⟨nm,pol,comp,ins,rules⟩ _ _ S HTd.out hSd.out HCT.out).mono ?_;rintro e wc ⟨u,rfl,hu,hbc0⟩;obtain ⟨viu,vru,rfl,hiu,hru⟩:=hu;have hbc:Below wz.heap.size wz wc:=jcw hbc0;have HIU:Hid (Sl Enc.str wc (jg7 wz.heap.size wc) ins viu):=hiu;have HRU:Hid (Sl Enc.rule wc (jg7 wz.heap.size wc) rules vru):=hru;obtain ⟨Aiu,ciu,rfl,-,-⟩:=hiu.form;obtain ⟨Aru,cru,rfl,-,-⟩:=hru.form;clear hiu hru hbc0;have CXc:=hid (CXz.out.next hbc);have x1c:=CXc.out.at 1 rfl;have hbd:=jaa wc (.cells #[.string nm,.int .i64 pol,.bool comp,.slice Aiu ins.length ciu,.slice Aru rules.length cru] 56);have CXd:=hid (CXc.out.next hbd);have x1d:=CXd.out.at 1 rfl;have hbzc:=bx hbz hbc;have HOd:=hid (OwnU.next (OwnU.next HO.out hbzc) hbd);have hbrd:=bx hbzc hbd;have hszd:w3.heap.size≤(wc.alloc (.cells #[.string nm,.int .i64 pol,.bool comp,.slice Aiu ins.length ciu,.slice Aru rules.length cru] 56)).heap.size:=Nat.le_trans hsz hbrd.size;have HY:Hid (Enc.tab.rd (wc.alloc (.cells #[.string nm,.int .i64 pol,.bool comp,.slice Aiu ins.length ciu,.slice Aru rules.length cru] 56)) (OffU w3.heap.size (wc.alloc (.cells #[.string nm,.int .i64 pol,.bool comp,.slice Aiu ins.length ciu,.slice Aru rules.length cru] 56)) vt) ⟨nm,pol,comp,ins,rules⟩ [.string nm,.int .i64 pol,.bool comp,.slice Aiu ins.length ciu,.slice Aru rules.length cru]):=Enc.tab_rd.2 ⟨_,_,rfl,(HIU.out.keep fun p hp=>hbd.cell hp.2.1).more (jg7.off (Nat.le_trans hsz hbz.size) (fun k hk=>(OwnS.lt (OwnU.next HO.out hbz) k hk).2) hbd),(HRU.out.keep fun p hp=>hbd.cell hp.2.1).more (jg7.off (Nat.le_trans hsz hbz.size) (fun k hk=>(OwnS.lt (OwnU.next HO.out hbz) k hk).2) hbd)⟩)
    | (refine jzo (E:=Enc.tab) rfl (.tmp 18) (.tmp 21) 36 rfl w3.heap.size w3.heap.size 56 80 (.agg #[.string ⟨#[]⟩,.int .i64 0,.bool false,.slice none 0 0,.slice none 0 0]) yps yrx rfl (by decide) vt (b.tabs.take k) (by simp [Act.eval]) HOd.out ⟨wc.heap.size,0,none⟩ ⟨nm,pol,comp,ins,rules⟩ [.string nm,.int .i64 pol,.bool comp,.slice Aiu ins.length ciu,.slice Aru rules.length cru] (by simp [Act.eval]) HY.out (jwo _ _ _ _ _ _ _) ?_ ?_ hszd ?_;(rw [HN.out];exact hk80);(rw [HN.out];unfold maxLen;omega);intro v5 w5 ho5 hg5 hmv5;clear hmv5;rw [← HTK.out] at ho5;obtain ⟨A5,c5',e5,-,-,-⟩:=OwnS.form ho5;rw [HN8.out] at e5;subst e5;have HO5:=hid ho5;have hlt5:=OwnS.lt HOd.out;have hb25:=hg5.block w2.heap.size CXd.out.1 (fun e=>by have:=(hlt5 _ e.symm).1;omega);have CX5:=hid (CXd.out.keep hb25 hg5.size);have x15:=CX5.out.at 1 rfl;have f15:=CX5.out.2.2 1 (by simp)))
   all_goals go_wp2
   all_goals
    have hgw:w2.heap.size<w3.heap.size:=by omega
    have hbd5:Below wr.heap.size wr (wc.alloc (.cells #[.string nm,.int .i64 pol,.bool comp,.slice Aiu ins.length ciu,.slice Aru rules.length cru] 56)):=hbrd;have hb35:Below w3.heap.size wr w5:=(hbd5.mono hsz).grown hg5 hszd (fun _ hj=>(hlt5 _ hj).1);have hb05:Below w.heap.size w w5:=jig hb hb35 (by omega);refine ⟨⟨k+1,.slice A5 (k+1) c5',by omega,by go_num,?_,?_,?_,CX5.out.set 1 (by simp) _,?_,?_,hb05.setCell (by show w.heap.size≤w2.heap.size;omega) _⟩,by simp [intOf];omega⟩
    ·exact OwnU.setCell HO5.out hgw (fun hh=>by have:=(OwnS.lt HO5.out _ hh).1;omega)
    ·exact fun q hq=>((HUU.out q hq).of (hb35.block q (by have:=hq.2.1;omega))).of (RowKit.Below.heap_setCell _ _ _ _ (show q≠w2.heap.size by have:=hq.2.1;omega))
    ·refine HSS.out.keep fun p hp=>?_;have hp1:=hp.1;have hp2:=hp.2.1;rw [World.cell?_of_block (RowKit.Below.heap_setCell _ _ _ _ (show p.block≠w2.heap.size by omega))];exact hb35.cell (by omega)
    ·exact (CR.out.keep (hb35.block _ (by omega)) hb35.size).keep (RowKit.Below.heap_setCell _ _ _ _ (show w.heap.size+1≠w2.heap.size by omega)) (by simp [World.setCell])
    ·have:=hb35.size
     simp [World.setCell];omega
  ·have ek:b.tabs.take k=b.tabs:=List.take_of_length_le (by omega);rw [ek] at HO;obtain ⟨A9,c9,rfl,-,-,-⟩:=OwnS.form HO.out;have x0:=CX.out.at 0 rfl;have x1:=CX.out.at 1 rfl;have r0:=CR.out.at 0 rfl;have r1:=CR.out.at 1 rfl;have f0:=CR.out.2.2 0 (by decide);have f1:=CR.out.2.2 1 (by decide);have hgg:w.heap.size+1<w3.heap.size:=by omega
   have hvv:(Value.slice A9 b.tabs.length c9).ownBlock≠some (w.heap.size+1):=fun hh=>by have:=(OwnS.lt HO.out _ hh).1;omega
   have HW:=hid (OwnU.setCell (OwnU.setCell HO.out (o:=0) (x:=.slice A1 b.doms.length c1') hgg hvv) (o:=1) (x:=.slice A9 b.tabs.length c9) hgg hvv);have HSW:Hid (Sl Enc.dom ((wr.setCell ⟨w.heap.size+1,0,none⟩ (.slice A1 b.doms.length c1')).setCell ⟨w.heap.size+1,1,none⟩ (.slice A9 b.tabs.length c9)) (jg7 w1.heap.size w2) b.doms (.slice A1 b.doms.length c1')):=by
    refine HSS.out.keep fun p hp=>?_;have hp1:=hp.1;have hpn:p.block≠w.heap.size+1:=by omega
    rw [World.cell?_of_block (RowKit.Below.heap_setCell _ _ _ _ hpn),World.cell?_of_block (RowKit.Below.heap_setCell _ _ _ _ hpn)]
   go_wp2
   (try simp only [Exit.inBlock,Exit.then])
   refine bodyPost_ret (jla (b:=w.heap.size+1) rfl rfl ((CR.out.set 0 (by simp) _).set 1 (by simp) _)) rfl ⟨_,rfl,⟨_,_,rfl,HSW.out.more fun q hq=>?_,(OwnU.sl HW.out (Nat.le_refl _)).more fun q hq=>⟨by have:=hq.1;omega,hq.2⟩⟩,(hb.setCell (by simp) _).setCell (by simp) _⟩;have hq2:=hq.2.1;have hq1:=hq.1;have hqn:q≠w.heap.size+1:=by omega
   refine ⟨by omega,?_,((HUU.out q hq).of (RowKit.Below.heap_setCell _ _ _ _ hqn)).of (RowKit.Below.heap_setCell _ _ _ _ hqn)⟩;simp [World.setCell];omega
theorem jv7 (b:BookD) (v:Value) (w:World) (S:Nat→Prop) (h:jar w S b v) (hS:∀ k,S k→k<w.heap.size) (hc:yq3 b) :
  Calls Tryz.prog 46 #[v] w fun e w'=>∃ u,e = .returned u∧jar w' (From w.heap.size w') b u∧Below w.heap.size w w' :=
 (jkt b v w S h hS hc).mono fun _ _ ⟨u,h1,⟨vd,vt,h2,h3,h4⟩,h5⟩=>⟨u,h1,⟨vd,vt,h2,h3.more fun _ hk=>⟨hk.1,hk.2.1⟩,h4.more fun _ hk=>⟨hk.1,hk.2.1⟩⟩,h5⟩
end Go.Proofs.YthmlndmlnlfhnaaGreatDoor
