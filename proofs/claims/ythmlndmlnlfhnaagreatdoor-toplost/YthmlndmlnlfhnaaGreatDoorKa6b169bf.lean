import Derived.Test.YthmlndmlnlfhnaaGreatDoorK11fc8bdf
import Derived.Test.YthmlndmlnlfhnaaGreatDoorK8b1430dd
import Derived.Test.YthmlndmlnlfhnaaGreatDoorK8f3b4e79
set_option maxRecDepth 100000
set_option maxHeartbeats 16000000
namespace Go.Proofs.YthmlndmlnlfhnaaGreatDoor
open Go.Lib (hid)
abbrev EntD:=ActD × ReplyD
def jjw (p:BookD × List ByteArray) (e:EntD):BookD × List ByteArray :=
 if e.1.kind=2 then
  if e.2.code≠0 then p
  else if (jdz e.1.text.data.toList).2.2.1 then (jd1 p.1 (jdz e.1.text.data.toList).2.1,p.2 ++ [(jdz e.1.text.data.toList).2.1.name])
  else (jgj p.1 (jdz e.1.text.data.toList).1,p.2 ++ [(jdz e.1.text.data.toList).1.1])
 else if e.1.kind=3 then if e.2.code=0 then (ja2 p.1 e.1.name,p.2 ++ [e.1.name]) else p
 else p
def okE (b:BookD) (p:BookD × List ByteArray) (e:EntD):Prop :=
 (e.1.kind=2→e.2.code=0→(jdz e.1.text.data.toList).2.2.2=0) ∧
 (e.1.kind=4→e.2.code≠1→jb2 (jf0 b p.1 p.2) e.1.name=e.2.text.data.toList) ∧
 (e.1.kind=5→askV (jf0 b p.1 p.2) e.1.inp=(e.2.answers,e.2.code))
def endM (h:List EntD):BookD × List ByteArray:=h.foldl jjw (jif,[])
def jtt (b:BookD) (h:List EntD):Prop:=∀ k e,h[k]? = some e→okE b (endM (h.take k)) e
theorem jkf (h:List EntD) (e:EntD):endM (h ++ [e])=jjw (endM h) e:=by simp [endM]
theorem jj0 {b:BookD} {h:List EntD} {e:EntD} (h1:jtt b h) (h2:okE b (endM h) e):jtt b (h ++ [e]):=by
 intro k x hx;by_cases hk:k<h.length
 ·rw [List.getElem?_append_left hk] at hx;rw [List.take_append_of_le_length (by omega)];exact h1 k x hx
 ·rw [List.getElem?_append_right (by omega)] at hx;have hk0:k-h.length=0:=by
   by_cases e0:k-h.length=0
   ·exact e0
   ·have:=(List.getElem?_eq_some_iff.1 hx).1;simp at this;omega
  rw [hk0] at hx;injection hx with hx;subst hx;rw [show k=h.length from by omega,List.take_append_of_le_length (Nat.le_refl _),List.take_of_length_le (Nat.le_refl _)];exact h2
structure Told (F:BookD) (x:SessD) (h:List EntD):Prop where
 mine:(endM h).1=x.mine
 gone:∀ s,s∈(endM h).2↔s∈x.gone
 snap:jtt F h
 ser:x.strict=true→∀ B,okB B=true→(∀ s,(s∈x.read∨noS∈x.read)→item B s=item F s)→jtt B h
theorem Told.new (F:BookD) (st:Bool) (f:Nat):Told F ⟨true,st,f,jif,[],[]⟩ [] :=
 ⟨rfl,fun s=>Iff.rfl,fun k e h=>by simp at h,fun _ B _ _ k e h=>by simp at h⟩
theorem ybx {b:BookD} {p:BookD × List ByteArray} {e:EntD} (h2:e.1.kind≠2) (h4:e.1.kind≠4) (h5:e.1.kind≠5):okE b p e :=
 ⟨fun h=>absurd h h2,fun h=>absurd h h4,fun h=>absurd h h5⟩
theorem Told.writes {F:BookD} {x x':SessD} {h:List EntD} {e:EntD} (ht:Told F x h) (hk:∀ B p,okE B p e) (h1:(jjw (endM h) e).1=x'.mine) (h2:∀ s,s∈(jjw (endM h) e).2↔s∈x'.gone) (hr:x'.read=x.read) (hs:x'.strict=x.strict):Told F x' (h ++ [e]) :=
 ⟨by rw [jkf];exact h1,fun s=>by rw [jkf];exact h2 s,jj0 ht.snap (hk _ _),fun hst B hB hi=>jj0 (ht.ser (hs ▸ hst) B hB (by rw [← hr];exact hi)) (hk _ _)⟩
theorem Told.put {F:BookD} {x:SessD} {h:List EntD} {a:ActD} (ht:Told F x h) (hk:a.kind=2):Told F (putV x a.text).1 (h ++ [(a,(putV x a.text).2)]):=by
 have hm:=ht.mine;have hg:=ht.gone;unfold putV;rcases jkm a.text.data.toList with ⟨d,e,g⟩ | ⟨t,e,g⟩ | ⟨c,e,g⟩
 ·rw [e];refine ht.writes (fun B p=>⟨fun _ _=>by rw [e],fun h=>?_,fun h=>?_⟩) ?_ ?_ rfl rfl
  ·exact absurd h (by show a.kind≠4;omega)
  ·exact absurd h (by show a.kind≠5;omega)
  ·simp [jjw,hk,jb8,e,hm]
  ·intro s;simp [jjw,hk,jb8,e,jfe,hg,or_comm]
 ·rw [e];refine ht.writes (fun B p=>⟨fun _ _=>by rw [e],fun h=>?_,fun h=>?_⟩) ?_ ?_ rfl rfl
  ·exact absurd h (by show a.kind≠4;omega)
  ·exact absurd h (by show a.kind≠5;omega)
  ·simp [jjw,hk,jb8,e,hm]
  ·intro s;simp [jjw,hk,jb8,e,jfe,hg,or_comm]
 ·rw [e];simp only [ne_eq,g,not_false_eq_true,if_true];refine ht.writes (fun B p=>⟨fun _ h0=>absurd h0 g,fun h=>?_,fun h=>?_⟩) ?_ ?_ rfl rfl
  ·exact absurd h (by show a.kind≠4;omega)
  ·exact absurd h (by show a.kind≠5;omega)
  ·simp [jjw,hk,jb8,g,hm]
  ·intro s;simp [jjw,hk,jb8,g,hg]
theorem Told.drop {F:BookD} {x:SessD} {h:List EntD} {a:ActD} (ht:Told F x h) (hk:a.kind=3):Told F (jky x a.name).1 (h ++ [(a,(jky x a.name).2)]):=by
 have hm:=ht.mine;have hg:=ht.gone;unfold jky;cases hn:jdr a.name
 ·simp only [if_true];refine ht.writes (fun B p=>ybx (by simp [hk]) (by simp [hk]) (by simp [hk])) ?_ ?_ rfl rfl
  ·simp [jjw,hk,jb8,hm]
  ·intro s;simp [jjw,hk,jb8,hg]
 ·simp only [Bool.true_eq_false,if_false];refine ht.writes (fun B p=>ybx (by simp [hk]) (by simp [hk]) (by simp [hk])) ?_ ?_ rfl rfl
  ·simp [jjw,hk,jb8,hm]
  ·intro s;simp [jjw,hk,jb8,hg,jfe,or_comm]
theorem Told.get {σ:StoreD} {x:SessD} {h:List EntD} {a:ActD} (ht:Told (σ.ver x.frm) x h) (hF:okB (σ.ver x.frm)=true) (hx:okB x.mine=true) (hk:a.kind=4):Told (σ.ver x.frm) (getV σ x a.name).1 (h ++ [(a,(getV σ x a.name).2)]):=by
 have hm:=ht.mine;have hg:=ht.gone;have hs:∀ r,jjw (endM h) (a,r)=endM h:=fun r=>by simp [jjw,hk]
 unfold getV;cases hn:jdr a.name
 ·simp only [if_true];exact ht.writes (fun B p=>⟨fun h=>absurd h (by show a.kind≠2;omega),fun _ h0=>absurd rfl h0,fun h=>absurd h (by show a.kind≠5;omega)⟩) (by rw [hs];exact hm) (fun s=>by rw [hs];exact hg s) rfl rfl
 ·simp only [Bool.true_eq_false,if_false];have hv:∀ B,okB B=true→jf0 B (endM h).1 (endM h).2=jf0 B x.mine x.gone:=fun B hB=>by rw [hm];exact jx4 hB hx hg
  have key:∀ B,okB B=true→jb2 (jf0 B x.mine x.gone) a.name=jb2 (jfu σ x) a.name→okE B (endM h) (a,if jb2 (jfu σ x) a.name = [] then jb8 3 else ⟨0,0,⟨(jb2 (jfu σ x) a.name).toArray⟩,[],[]⟩):=by
   intro B hB he;refine ⟨fun h=>absurd h (by show a.kind≠2;omega),fun _ _=>?_,fun h=>absurd h (by show a.kind≠5;omega)⟩;simp only;rw [hv B hB,he];split
   ·rename_i e0;rw [e0];rfl
   ·simp
  refine ⟨by rw [jkf,hs];exact hm,fun s=>by rw [jkf,hs];exact hg s,jj0 ht.snap (key _ hF rfl),fun hst B hB hi=>?_⟩;have hi':∀ s,s=a.name∨s∈x.read∨noS∈x.read→item B s=item (σ.ver x.frm) s:=fun s h=>hi s (by
   rcases h with h | h | h
   ·exact .inl (jfe.2 (.inl h))
   ·exact .inl (jfe.2 (.inr h))
   ·exact .inr (jfe.2 (.inr h)))
  refine jj0 (ht.ser hst B hB fun s h=>hi' s (.inr h)) (key B hB ?_);obtain ⟨a1,a2⟩:=ji2 hB hx x.gone;obtain ⟨b1,b2⟩:=ji2 hF hx x.gone;rw [joq a1,joq (b:=jfu σ x) b1]
  congr 2
  show item (jf0 B x.mine x.gone) a.name=item (jf0 (σ.ver x.frm) x.mine x.gone) a.name
  rw [a2,b2,hi' a.name (.inl rfl)]
theorem Told.ask {σ:StoreD} {x:SessD} {h:List EntD} {a:ActD} (ht:Told (σ.ver x.frm) x h) (hF:okB (σ.ver x.frm)=true) (hx:okB x.mine=true) (hk:a.kind=5):Told (σ.ver x.frm) (jpi σ x a.inp).1 (h ++ [(a,(jpi σ x a.inp).2)]):=by
 have hm:=ht.mine;have hg:=ht.gone;have hs:∀ r,jjw (endM h) (a,r)=endM h:=fun r=>by simp [jjw,hk]
 have key:okE (σ.ver x.frm) (endM h) (a,(jpi σ x a.inp).2):=by
  refine ⟨fun h=>absurd h (by show a.kind≠2;omega),fun h=>absurd h (by show a.kind≠4;omega),fun _=>?_⟩;have:jf0 (σ.ver x.frm) (endM h).1 (endM h).2=jfu σ x:=by rw [hm];exact jx4 hF hx hg
  simp only;rw [this];rfl
 have hsub:∀ s,s∈x.read→s∈jln σ x:=by
  intro s h;unfold jln;simp only;split
  ·exact jfe.2 (.inr (jk8.2 (.inr h)))
  ·exact jk8.2 (.inr h)
 refine ⟨by rw [jkf,hs];exact hm,fun s=>by rw [jkf,hs];exact hg s,jj0 ht.snap key,fun hst B hB hi=>?_⟩;have hno:noS∈jln σ x:=by
  have hst':x.strict=true:=hst;unfold jln;rw [hst'];exact jfe.2 (.inl rfl)
 have:B = σ.ver x.frm:=ye7 hB hF fun s=>hi s (.inr hno)
 subst this;exact jj0 ht.snap key
theorem yrv (x:SessD) (s:ByteArray):(putV x s).1.frm=x.frm:=by
 unfold putV;simp only;split
 ·rfl
 ·split <;> rfl
def yoj (hist:List (List EntD)) (σ:StoreD) (a:ActD):List (List EntD) :=
 if a.kind=1 then if (doV σ a).2.code=0 then hist.set (doV σ a).2.n.toNat [] else hist
 else if 1<a.kind∧a.kind<6∧(jce σ a.n).opn=true then hist.set a.n.toNat (((hist[a.n.toNat]?).getD []) ++ [(a,(doV σ a).2)])
 else hist
structure HInv (σ:StoreD) (hist:List (List EntD)):Prop where
 four:hist.length=4
 told:∀ (n:Nat) x,σ.sess[n]? = some x→x.opn=true→Told (σ.ver x.frm) x ((hist[n]?).getD [])
theorem yr6 {σ:StoreD} (b:BookD) {n:Nat} (h:n ≤ σ.last) (se:List SessD) (ac:Nat):StoreD.ver ⟨σ.later ++ [b],se,ac⟩ n = σ.ver n:=by
 unfold StoreD.ver StoreD.states;simp only;rw [← List.cons_append,List.getElem?_append_left (by simp;unfold StoreD.last at h;omega)]
theorem jd9 {σ:StoreD} {n:Int}:jcp σ n=true↔0≤n∧n<4∧(σ.sessN n.toNat).opn=true:=by
 unfold jcp;simp [and_assoc]
theorem je5 {σ:StoreD} (h:Inv σ) {n:Nat} (hn:n<4):σ.sess[n]? = some (σ.sessN n):=by
 unfold StoreD.sessN;rw [List.getElem?_eq_getElem (by rw [h.four];exact hn)];rfl
theorem jnx {σ:StoreD} {n:Int}:(jce σ n).opn=jcp σ n:=by
 unfold jce;cases h:jcp σ n
 ·rfl
 ·exact (jd9.1 h).2.2
theorem jnh {σ:StoreD} (x:SessD):(jer σ x).1 = σ∨∃ b,(jer σ x).1 = ⟨σ.later ++ [b],σ.sess,σ.acts⟩:=by
 unfold jer;split
 ·exact .inl rfl
 ·split
  ·exact .inl rfl
  ·split
   ·exact .inl rfl
   ·simp only;split
    ·exact .inl rfl
    ·exact .inr ⟨_,rfl⟩
theorem HInv.new:HInv newV [[],[],[],[]]:=⟨rfl,fun n x h ho=>by
 have:=List.mem_of_getElem? h
 have:x=jjn:=by simp [newV] at this;exact this
 rw [this] at ho;cases ho⟩
theorem HInv.set {σ:StoreD} {hist:List (List EntD)} (h:HInv σ hist) {n:Nat} {x:SessD} {l:List EntD} (hl:σ.sess.length=4) (ht:x.opn=true→Told (σ.ver x.frm) x l):HInv (jaq σ n x) (hist.set n l):=by
 refine ⟨by simp [h.four],fun m y hy ho=>?_⟩;have hy':(σ.sess.set n x)[m]? = some y:=hy;by_cases e:n=m
 ·subst e;have hn:n < σ.sess.length:=by have:=(List.getElem?_eq_some_iff.1 hy').1;simpa using this
  rw [List.getElem?_set_self hn] at hy';injection hy' with hy';subst hy';rw [List.getElem?_set_self (by rw [h.four];omega)];exact ht ho
 ·rw [List.getElem?_set_ne e] at hy';rw [List.getElem?_set_ne e];exact h.told m y hy' ho
theorem HInv.close {σ:StoreD} {hist:List (List EntD)} (h:HInv σ hist) {n:Nat}:HInv (jaq σ n jjn) hist:=by
 refine ⟨h.four,fun m y hy ho=>?_⟩;have hy':(σ.sess.set n jjn)[m]? = some y:=hy;by_cases e:n=m
 ·subst e;have hn:n < σ.sess.length:=by have:=(List.getElem?_eq_some_iff.1 hy').1;simpa using this
  rw [List.getElem?_set_self hn] at hy';injection hy' with hy';subst hy';cases ho
 ·rw [List.getElem?_set_ne e] at hy';exact h.told m y hy' ho
theorem HInv.do_ {σ:StoreD} {hist:List (List EntD)} (hi:Inv σ) (h:HInv σ hist) (hact:σ.acts<200) (a:ActD):HInv (doV σ a).1 (yoj hist σ a):=by
 have hso:=jnx (σ:=σ) (n:=a.n);unfold yoj;rw [hso];unfold doV;have hfull:¬ 200 ≤ σ.acts:=by omega
 ·rw [if_neg hfull];have ht:=hi.tick (by omega);have hT:HInv (jbj σ) hist:=⟨h.four,fun n x hx ho=>h.told n x hx ho⟩;by_cases hk1:a.kind=1
  ·rw [if_pos hk1,if_pos hk1];unfold jmt;split
   ·simp [jb8];exact hT
   ·split
    ·simp [jb8];exact hT
    ·rename_i n hn
     simp only [numR,if_true,Int.toNat_natCast];exact hT.set ht.four fun _=>Told.new _ _ _
  ·rw [if_neg hk1,if_neg hk1];by_cases hk:2≤a.kind∧a.kind≤7
   ·rw [if_pos hk];cases hop:jcp σ a.n
    ·simp;exact hT
    ·obtain ⟨h0,h4,ho⟩:=jd9.1 hop;have hg:=je5 hi (n:=a.n.toNat) (by omega);have htold:=h.told _ _ hg ho;have hso:=hi.at a.n.toNat;have hF:=jq4 hi (σ.sessN a.n.toNat).frm;simp only [if_true,and_true];unfold ja8;simp only;have ex:(jbj σ).sessN a.n.toNat = σ.sessN a.n.toNat:=rfl;rw [ex];by_cases k2:a.kind=2
     ·rw [if_pos k2,if_pos (by omega)];exact hT.set ht.four fun _=>(show Told (σ.ver (putV (σ.sessN a.n.toNat) a.text).1.frm) _ _ from by
       have:(putV (σ.sessN a.n.toNat) a.text).1.frm=(σ.sessN a.n.toNat).frm:=yrv _ _
       rw [this];exact htold.put k2)
     ·rw [if_neg k2];by_cases k3:a.kind=3
      ·rw [if_pos k3,if_pos (by omega)];exact hT.set ht.four fun _=>(show Told (σ.ver (jky (σ.sessN a.n.toNat) a.name).1.frm) _ _ from by
        have:(jky (σ.sessN a.n.toNat) a.name).1.frm=(σ.sessN a.n.toNat).frm:=by unfold jky;split <;> rfl
        rw [this];exact htold.drop k3)
      ·rw [if_neg k3];by_cases k4:a.kind=4
       ·rw [if_pos k4,if_pos (by omega)];exact hT.set ht.four fun _=>(show Told (σ.ver (getV (jbj σ) (σ.sessN a.n.toNat) a.name).1.frm) _ _ from by
         have:(getV (jbj σ) (σ.sessN a.n.toNat) a.name).1.frm=(σ.sessN a.n.toNat).frm:=by unfold getV;split <;> rfl
         rw [this];exact Told.get (σ:=jbj σ) htold hF hso.mine k4)
       ·rw [if_neg k4];by_cases k5:a.kind=5
        ·rw [if_pos k5,if_pos (by omega)];exact hT.set ht.four fun _=>Told.ask (σ:=jbj σ) htold hF hso.mine k5
        ·rw [if_neg k5];rw [if_neg (by omega:¬ (1<a.kind∧a.kind<6))];by_cases k6:a.kind=6
         ·rw [if_pos k6];have hC:=hT.close (n:=a.n.toNat);rcases jnh (σ:=jaq (jbj σ) a.n.toNat jjn) (σ.sessN a.n.toNat) with e | ⟨b,e⟩
          ·rw [e];exact hC
          ·rw [e];refine ⟨hC.four,fun m y hy hoy=>?_⟩;have hle:y.frm≤(jaq (jbj σ) a.n.toNat jjn).last:=((ht.set (n:=a.n.toNat) (SessOk.zero _ _)).sess y (List.mem_of_getElem? hy)).frm;rw [yr6 b hle];exact hC.told m y hy hoy
         ·rw [if_neg k6];exact hT.close
   ·rw [if_neg hk,if_neg (by omega)];exact hT
open Go.Lib (hid)
open Go.RowKit Go.Shelf
def Im (c:Nat→Nat):Nat→Prop:=fun b=>c b=11
structure SessC (w:World) (c:Nat→Nat) (n:Nat) (x:SessD) (vd vt vg vr:Value):Prop where
 doms:Sl Enc.dom w (Im c) x.mine.doms vd
 tabs:Sl Enc.tab w (Im c) x.mine.tabs vt
 gone:OwnT w 0 vg x.gone
 goneC:∀ b,vg.ownBlock=some b→c b=3+2*n
 read:OwnT w 0 vr x.read
 readC:∀ b,vr.ownBlock=some b→c b=4+2*n
theorem SessC.keep {w w':World} {c c':Nat→Nat} {n:Nat} {x:SessD} {vd vt vg vr:Value} (h:SessC w c n x vd vt vg vr) (hk:∀ b,c b=11∨c b=3+2*n∨c b=4+2*n→w'.heap[b]? = w.heap[b]? ∧ c' b=c b):SessC w' c' n x vd vt vg vr where
 doms:=(h.doms.keep fun _ hp=>World.cell?_of_block (hk _ (.inl hp)).1).more fun b hb=>(hk b (.inl hb)).2.trans hb
 tabs:=(h.tabs.keep fun _ hp=>World.cell?_of_block (hk _ (.inl hp)).1).more fun b hb=>(hk b (.inl hb)).2.trans hb
 gone:=h.gone.keep fun b hb=>(hk b (.inr (.inl (h.goneC b hb)))).1
 goneC:=fun b hb=>((hk b (.inr (.inl (h.goneC b hb)))).2).trans (h.goneC b hb)
 read:=h.read.keep fun b hb=>(hk b (.inr (.inr (h.readC b hb)))).1
 readC:=fun b hb=>((hk b (.inr (.inr (h.readC b hb)))).2).trans (h.readC b hb)
def jpv (x:SessD) (vd vt vg vr:Value):List Value:=[.bool x.opn,.bool x.strict,.int .i64 x.frm,vd,vt,vg,vr]
def yi6 (w:World) (c:Nat→Nat) (n:Nat) (x:SessD) (vs:List Value):Prop :=
 ∃ vd vt vg vr,SessC w c n x vd vt vg vr∧∀ j v,(jpv x vd vt vg vr)[j]? = some v→vs[1+n*7+j]? = some v
structure StoreC (w:World) (c:Nat→Nat) (g:Nat) (σ:StoreD) (vs:List Value) (vl:Value):Prop where
 cs:Cs w g vs
 len:vs.length=30
 col:c g=1
 lt:∀ b,c b≠0→b<w.heap.size
 row:OwnS Enc.book w 0 (Im c) 38 vl σ.later
 rowC:∀ b,vl.ownBlock=some b→c b=2
 v0:vs[0]? = some vl
 sess:∀ n x,σ.sess[n]? = some x→yi6 w c n x vs
 acts:vs[29]? = some (.int .i64 σ.acts)
 inv:Inv σ
 one:∀ b,c b=1→b=g
def yqu (w:World) (c:Nat→Nat) (g:Nat) (σ:StoreD):Prop:=∃ vs vl,StoreC w c g σ vs vl
structure Fr (c:Nat→Nat) (w w':World):Prop where
 os:w'.os=w.os
 tape:w'.tape=w.tape
 output:w'.output=w.output
 size:w.heap.size≤w'.heap.size
 block:∀ k,k<w.heap.size→c k=0→w'.heap[k]? = w.heap[k]?
section
variable {w w' w2:World} {c c':Nat→Nat} {g:Nat} {σ:StoreD} {vs:List Value} {vl:Value}
theorem Fr.below (h:Below w.heap.size w w'):Fr c w w':=⟨h.os,h.tape,h.output,h.size,fun k hk _=>h.block k hk⟩
theorem Fr.trans (h:Fr c w w') (h':Fr c' w' w2) (hc:∀ b,b<w.heap.size→c' b=c b):Fr c w w2 :=
 ⟨h'.os.trans h.os,h'.tape.trans h.tape,h'.output.trans h.output,Nat.le_trans h.size h'.size,fun k hk h0=>(h'.block k (Nat.lt_of_lt_of_le hk h.size) ((hc k hk).trans h0)).trans (h.block k hk h0)⟩
theorem Fr.set (c:Nat→Nat) (w:World) (b o:Nat) (v:Value) (h:c b≠0):Fr c w (w.setCell ⟨b,o,none⟩ v) :=
 ⟨rfl,rfl,rfl,by simp [World.setCell],fun k _ h0=>RowKit.Below.heap_setCell _ _ _ _ (show k≠b from fun e=>h (e ▸ h0))⟩
theorem StoreC.keep (h:StoreC w c g σ vs vl) (hk:∀ b,c b≠0→w'.heap[b]? = w.heap[b]?) (hs:w.heap.size≤w'.heap.size):StoreC w' c g σ vs vl where
 cs:=h.cs.keep (hk g (by rw [h.col];decide)) hs
 len:=h.len
 col:=h.col
 lt:=fun b hb=>Nat.lt_of_lt_of_le (h.lt b hb) hs
 row:=h.row.keep (fun k hk'=>hk k (by rw [h.rowC k hk'];decide)) (fun k hk'=>hk k (by rw [show c k=11 from hk'];decide))
 rowC:=h.rowC
 v0:=h.v0
 sess:=fun n x hx=>by
  obtain ⟨vd,vt,vg,vr,h1,h2⟩:=h.sess n x hx;exact ⟨vd,vt,vg,vr,h1.keep fun b hb=>⟨hk b (by omega),rfl⟩,h2⟩
 acts:=h.acts
 inv:=h.inv
 one:=h.one
theorem StoreC.next (h:StoreC w c g σ vs vl) (hb:Below w.heap.size w w'):StoreC w' c g σ vs vl:=h.keep (fun b hb'=>hb.block b (h.lt b hb')) hb.size
def jf9 (c:Nat→Nat) (lo hi k:Nat):Nat→Nat:=fun b=>if lo≤b∧b<hi then k else c b
theorem ju2 {lo hi k b:Nat} (h:b<lo):jf9 c lo hi k b=c b:=by unfold jf9;rw [if_neg (by omega)]
theorem yb5 {lo hi k b:Nat} (h1:lo≤b) (h2:b<hi):jf9 c lo hi k b=k:=by unfold jf9;rw [if_pos ⟨h1,h2⟩]
theorem StoreC.setSess (h:StoreC w c g σ vs vl) {n:Nat} {x:SessD} {vs':List Value} {vd vt vg vr:Value} (hn:n<4)
  (hcs:Cs w' g vs') (hlen:vs'.length=30)
  (hk:∀ b,c b≠0→c b≠1→c b≠3+2*n→c b≠4+2*n→w'.heap[b]? = w.heap[b]? ∧ c' b=c b)
  (hg:c' g=1) (hone:∀ b,c' b=1→b=g) (hlt:∀ b,c' b≠0→b<w'.heap.size) (hvs:∀ j,j<1+n*7∨8+n*7≤j→vs'[j]? = vs[j]?)
  (hC:SessC w' c' n x vd vt vg vr) (hL:∀ j v,(jpv x vd vt vg vr)[j]? = some v→vs'[1+n*7+j]? = some v) (hinv:Inv (jaq σ n x)):StoreC w' c' g (jaq σ n x) vs' vl where
 cs:=hcs
 len:=hlen
 col:=hg
 lt:=hlt
 row:=(h.row.keep (fun k hk'=>(hk k (by rw [h.rowC k hk'];decide) (by rw [h.rowC k hk'];decide) (by rw [h.rowC k hk'];omega) (by rw [h.rowC k hk'];omega)).1) (fun k hk'=>by
  have e:c k=11:=hk';exact (hk k (by omega) (by omega) (by omega) (by omega)).1)).more fun k hk'=>by
  have e:c k=11:=hk';exact ((hk k (by omega) (by omega) (by omega) (by omega)).2).trans e
 rowC:=fun b hb=>by
  have e:=h.rowC b hb;exact ((hk b (by omega) (by omega) (by omega) (by omega)).2).trans e
 v0:=(hvs 0 (by omega)).trans h.v0
 sess:=fun m y hy=>by
  have hy':(σ.sess.set n x)[m]? = some y:=hy;have hl4:σ.sess.length=4:=h.inv.four;by_cases e:n=m
  ·subst e;rw [List.getElem?_set_self (by omega)] at hy';injection hy' with hy';subst hy';exact ⟨vd,vt,vg,vr,hC,hL⟩
  ·rw [List.getElem?_set_ne e] at hy';have hm:m<4:=by have:=(List.getElem?_eq_some_iff.1 hy').1;omega
   obtain ⟨vd',vt',vg',vr',h1,h2⟩:=h.sess m y hy';refine ⟨vd',vt',vg',vr',h1.keep fun b hb=>hk b (by omega) (by omega) (by omega) (by omega),fun j v hj=>?_⟩;have hjl:j<7:=by have:=(List.getElem?_eq_some_iff.1 hj).1;simpa [jpv] using this
   rw [hvs _ (by omega)];exact h2 j v hj
 acts:=(hvs 29 (by omega)).trans h.acts
 inv:=hinv
 one:=hone
end
theorem StoreC.sessAt {w:World} {c:Nat→Nat} {g:Nat} {σ:StoreD} {vs:List Value} {vl:Value} (h:StoreC w c g σ vs vl) {n:Nat} {x:SessD} (hx:σ.sess[n]? = some x) :
  ∃ vd vt vg vr,SessC w c n x vd vt vg vr∧n<4∧(∀ j v,(jpv x vd vt vg vr)[j]? = some v→vs[1+n*7+j]? = some v)∧∀ j v,(jpv x vd vt vg vr)[j]? = some v→w.cell? ⟨g,1+n*7+j,none⟩=some v∧w.frozen? ⟨g,1+n*7+j,none⟩=false:=by
 obtain ⟨vd,vt,vg,vr,h1,h2⟩:=h.sess n x hx;have hn:n<4:=by have:=(List.getElem?_eq_some_iff.1 hx).1;have:=h.inv.four;omega
 exact ⟨vd,vt,vg,vr,h1,hn,h2,fun j v hj=>⟨h.cs.2.1 _ v (h2 j v hj),h.cs.2.2 _ (by have:=(List.getElem?_eq_some_iff.1 (h2 j v hj)).1;exact this)⟩⟩
def jb0 (w:World) (S:Nat→Prop) (r:ReplyD) (v:Value):Prop:=∃ va vt,v = .agg #[.int .i64 r.code,.int .i64 r.n,.string r.text,va,vt]∧Sl Enc.ans w S r.answers va∧Sl Enc.int w S r.at_ vt
theorem jb0.plain {w:World} {S:Nat→Prop} (a b:Int) (s:ByteArray):jb0 w S ⟨a,b,s,[],[]⟩ (.agg #[.int .i64 a,.int .i64 b,.string s,.slice none 0 0,.slice none 0 0]):=⟨_,_,rfl,Sl.nil,Sl.nil⟩
def jam (w:World) (c:Nat→Nat) (g:Nat) (R:StoreD × ReplyD) (e:Ending) (w':World):Prop :=
 ∃ c' v,e = .returned v∧yqu w' c' g R.1∧(∀ b,b<w.heap.size→c' b=c b)∧Fr c w w'∧jb0 w' (fun b=>w.heap.size≤b∧b<w'.heap.size∧c' b=0) R.2 v
theorem StoreC.wrote {w w2 w4:World} {c:Nat→Nat} {g n lo base:Nat} {σ:StoreD} {vs:List Value} {vl vd vt vg vr vd' vt' v4:Value} {x:SessD} {S:Nat→Prop} {mine':BookD} {gone':List ByteArray} (h:StoreC w c g σ vs vl) (hn:n<4)
  (hC:SessC w c n x vd vt vg vr) (hL:∀ j v,(jpv x vd vt vg vr)[j]? = some v→vs[1+n*7+j]? = some v) (hlo:w.heap.size≤lo) (hlo2:lo≤w2.heap.size) (hb2:Below w.heap.size w w2)
  (hS:∀ b,S b→Im c b∨(lo≤b∧b<w2.heap.size)) (hbase:lo≤base) (hN:jli w2 base S mine' (.agg #[vd',vt']))
  (hO:OwnT w4 0 v4 gone') (hg:((w2.setCell ⟨g,1+n*7+3,none⟩ vd').setCell ⟨g,1+n*7+4,none⟩ vt').grownBy w4 vg.ownBlock) (hm:jed ((w2.setCell ⟨g,1+n*7+3,none⟩ vd').setCell ⟨g,1+n*7+4,none⟩ vt') vg v4)
  (hI:Inv (jaq σ n { x with mine:=mine',gone:=gone' })) :
  ∃ c',StoreC (w4.setCell ⟨g,1+n*7+5,none⟩ v4) c' g (jaq σ n { x with mine:=mine',gone:=gone' }) (((vs.set (1+n*7+3) vd').set (1+n*7+4) vt').set (1+n*7+5) v4) vl∧(∀ b,b<lo→c' b=c b)∧Fr c w (w4.setCell ⟨g,1+n*7+5,none⟩ v4):=by
 have hgl:g<w.heap.size:=h.cs.1;have hgC:∀ b,c b≠1→b≠g:=fun b hb e=>hb (by rw [e];exact h.col);obtain ⟨w3,hw3⟩:∃ w3,w3=(w2.setCell ⟨g,1+n*7+3,none⟩ vd').setCell ⟨g,1+n*7+4,none⟩ vt':=⟨_,rfl⟩;have h3:∀ b,b≠g→w3.heap[b]? = w2.heap[b]?:=fun b hb=>by rw [hw3,RowKit.Below.heap_setCell _ _ _ _ hb,RowKit.Below.heap_setCell _ _ _ _ hb]
 have hz3:w3.heap.size=w2.heap.size:=by rw [hw3];simp [World.setCell]
 have hz2:=hb2.size;rw [← hw3] at hg hm;have hz4:=hg.size;have hvg:∀ b,vg.ownBlock=some b→c b=3+2*n:=hC.goneC;have hgv:vg.ownBlock≠some g:=fun e=>by have:=hvg g e;rw [h.col] at this;omega
 have h4:∀ b,b≠g→c b≠3+2*n→b<w2.heap.size→w4.heap[b]? = w2.heap[b]?:=fun b hb hc hlt=>(hg.block b (by omega) (fun e=>hc (hvg b e.symm))).trans (h3 b hb);have h5:∀ b,b≠g→(w4.setCell ⟨g,1+n*7+5,none⟩ v4).heap[b]? = w4.heap[b]?:=fun b hb=>RowKit.Below.heap_setCell _ _ _ _ hb;have hz5:(w4.setCell ⟨g,1+n*7+5,none⟩ v4).heap.size=w4.heap.size:=by simp [World.setCell]
 have hlen:=h.len;have hcw:∀ b,c b≠0→b<w.heap.size:=h.lt;have hvb:∀ b,v4.ownBlock=some b→(b<w.heap.size∧c b=3+2*n)∨w2.heap.size≤b:=fun b hb=>by
  rcases hm b hb with e | e
  ·exact .inl ⟨hcw b (by rw [hvg b e];omega),hvg b e⟩
  ·exact .inr (by omega)
 have CS2:Cs w2 g vs:=h.cs.next hb2;have CS3:Cs w3 g ((vs.set (1+n*7+3) vd').set (1+n*7+4) vt'):=by rw [hw3];exact (CS2.set _ (by omega) _).set _ (by simp;omega) _
 have CS4:Cs w4 g ((vs.set (1+n*7+3) vd').set (1+n*7+4) vt'):=CS3.grownO hg hgv
 let c':Nat→Nat:=fun b=>if v4.ownBlock=some b then 3+2*n else jf9 c lo w2.heap.size 11 b
 have hold:∀ b,b<lo→c' b=c b:=fun b hb=>by
  show (if v4.ownBlock=some b then 3+2*n else jf9 c lo w2.heap.size 11 b)=c b
  split
  ·rename_i e
   rcases hvb b e with h | h
   ·exact h.2.symm
   ·omega
  ·exact ju2 hb
 have hpc:∀ b,v4.ownBlock≠some b→c' b=jf9 c lo w2.heap.size 11 b:=fun b hb=>if_neg hb;have hpv:∀ b,v4.ownBlock=some b→c' b=3+2*n:=fun b hb=>if_pos hb;have hcol:∀ b,c' b≠0→b<w4.heap.size:=fun b hb=>by
  by_cases e:v4.ownBlock=some b
  ·exact (hO.lt b e).2
  ·rw [hpc b e] at hb;unfold jf9 at hb;split at hb
   ·omega
   ·have:=hcw b hb;omega
 have hkeep:∀ b,c b≠0→c b≠1→c b≠3+2*n→(w4.setCell ⟨g,1+n*7+5,none⟩ v4).heap[b]? = w.heap[b]? ∧ c' b=c b:=fun b h0 h1 h2=>by
  have hb:=hcw b h0;exact ⟨(h5 b (hgC b h1)).trans ((h4 b (hgC b h1) h2 (by omega)).trans (hb2.block b hb)),hold b (by omega)⟩
 obtain ⟨vdd,vtt,e,o1,o2,_⟩:=hN;injection e with e;injection e with e;injection e with e7 e8;injection e8 with e8 _;subst e7 e8;have hnew:∀ b,lo≤b→b<w2.heap.size→(w4.setCell ⟨g,1+n*7+5,none⟩ v4).heap[b]? = w2.heap[b]? ∧ c' b=11:=fun b hb1 hb2'=>by
  have hbg:b≠g:=by omega
  have hc0:c b=0:=by
   by_cases h0:c b=0
   ·exact h0
   ·have:=hcw b h0;omega
  refine ⟨(h5 b hbg).trans (h4 b hbg (by omega) hb2'),?_⟩;rw [hpc b (fun e=>by rcases hvb b e with h | h <;> omega)];exact yb5 hb1 hb2'
 have hI11:∀ b,Im c b→(w4.setCell ⟨g,1+n*7+5,none⟩ v4).heap[b]? = w2.heap[b]? ∧ c' b=11:=fun b hb=>by
  have hb':c b=11:=hb;have hk:=hkeep b (by omega) (by omega) (by omega);exact ⟨hk.1.trans (hb2.block b (hcw b (by omega))).symm,hk.2.trans hb'⟩
 have hSS:∀ b,S b→(w4.setCell ⟨g,1+n*7+5,none⟩ v4).heap[b]? = w2.heap[b]? ∧ c' b=11:=fun b hb=>by
  rcases hS b hb with h | h
  ·exact hI11 b h
  ·exact hnew b h.1 h.2
 refine ⟨c',h.setSess hn (CS4.set _ (by simp;omega) _) (by simp [hlen]) (fun b h0 h1 h2 h3=>hkeep b h0 h1 h2) ?_ ?_ (fun b hb=>by rw [hz5];exact hcol b hb) ?_ (vd:=vd') (vt:=vt') (vg:=v4) (vr:=vr) ⟨?_,?_,?_,fun b hb=>hpv b hb,?_,?_⟩ ?_ hI,hold,?_⟩
 ·rw [hold g (by omega)];exact h.col
 ·intro b hb;by_cases e:v4.ownBlock=some b
  ·rw [hpv b e] at hb;omega
  ·rw [hpc b e] at hb;unfold jf9 at hb;split at hb
   ·omega
   ·exact h.one b hb
 ·intro j hj;rw [List.getElem?_set_ne (by omega),List.getElem?_set_ne (by omega),List.getElem?_set_ne (by omega)]
 ·exact (ju1 (S:=fun b=>base≤b∧b<w2.heap.size) o1 (fun b hb=>World.ownsRow.lt o1 b hb)).keep (fun p hp=>World.cell?_of_block (hnew _ (by have:=hp.1;omega) hp.2).1) |>.more fun b hb=>(hnew b (by have:=hb.1;omega) hb.2).2
 ·have hsl:=o2.sl (S':=fun b=>(base≤b∧b<w2.heap.size)∨S b) (fun b hb=>.inl (o2.lt b hb)) (fun b hb=>.inr hb);refine (hsl.keep (w':=w4.setCell ⟨g,1+n*7+5,none⟩ v4) fun p hp=>World.cell?_of_block ?_).more fun b hb=>?_
  ·rcases hp with hp | hp
   ·exact (hnew _ (by have:=hp.1;omega) hp.2).1
   ·exact (hSS _ hp).1
  ·rcases hb with hb | hb
   ·exact (hnew _ (by have:=hb.1;omega) hb.2).2
   ·exact (hSS _ hb).2
 ·exact hO.keep fun b hb=>h5 b (fun e=>by
   rcases hvb b hb with h' | h'
   ·rw [e,h.col] at h';omega
   ·omega)
 ·refine hC.read.keep fun b hb=>?_;have e:=hC.readC b hb;exact (hkeep b (by omega) (by omega) (by omega)).1
 ·intro b hb;have e:=hC.readC b hb;exact ((hkeep b (by omega) (by omega) (by omega)).2).trans e
 ·intro j v hj
  match j with
  | 0=>rw [List.getElem?_set_ne (by omega),List.getElem?_set_ne (by omega),List.getElem?_set_ne (by omega)];exact hL 0 v hj
  | 1=>rw [List.getElem?_set_ne (by omega),List.getElem?_set_ne (by omega),List.getElem?_set_ne (by omega)];exact hL 1 v hj
  | 2=>rw [List.getElem?_set_ne (by omega),List.getElem?_set_ne (by omega),List.getElem?_set_ne (by omega)];exact hL 2 v hj
  | 3=>rw [List.getElem?_set_ne (by omega),List.getElem?_set_ne (by omega),List.getElem?_set_self (by omega)];exact hj
  | 4=>rw [List.getElem?_set_ne (by omega),List.getElem?_set_self (by simp;omega)];exact hj
  | 5=>rw [List.getElem?_set_self (by simp;omega)];exact hj
  | 6=>rw [List.getElem?_set_ne (by omega),List.getElem?_set_ne (by omega),List.getElem?_set_ne (by omega)];exact hL 6 v hj
  | j+7=>simp [jpv] at hj
 ·refine ⟨?_,?_,?_,by omega,fun b hb h0=>?_⟩
  ·show w4.os=_;rw [hg.os,hw3];exact hb2.os
  ·show w4.tape=_;rw [hg.tape,hw3];exact hb2.tape
  ·show w4.output=_;rw [hg.output,hw3];exact hb2.output
  ·have hbg:b≠g:=fun e=>by rw [e,h.col] at h0;omega
   rw [h5 b hbg,h4 b hbg (by omega) (by omega),hb2.block b hb]
theorem StoreC.readS {w w4:World} {c:Nat→Nat} {g n:Nat} {σ:StoreD} {vs:List Value} {vl vd vt vg vr v4:Value} {x:SessD} {read':List ByteArray} (h:StoreC w c g σ vs vl) (hn:n<4)
  (hC:SessC w c n x vd vt vg vr) (hL:∀ j v,(jpv x vd vt vg vr)[j]? = some v→vs[1+n*7+j]? = some v)
  (hO:OwnT w4 0 v4 read') (hg:w.grownBy w4 vr.ownBlock) (hm:jed w vr v4) (hI:Inv (jaq σ n { x with read:=read' })) :
  ∃ c',StoreC (w4.setCell ⟨g,1+n*7+6,none⟩ v4) c' g (jaq σ n { x with read:=read' }) (vs.set (1+n*7+6) v4) vl∧(∀ b,b<w.heap.size→c' b=c b)∧(∀ b,c' b≠0→c b≠0∨v4.ownBlock=some b)∧Fr c w (w4.setCell ⟨g,1+n*7+6,none⟩ v4)∧SessC (w4.setCell ⟨g,1+n*7+6,none⟩ v4) c' n { x with read:=read' } vd vt vg v4∧∀ j v,(jpv { x with read:=read' } vd vt vg v4)[j]? = some v→(vs.set (1+n*7+6) v4)[1+n*7+j]? = some v:=by
 have hgl:g<w.heap.size:=h.cs.1;have hgC:∀ b,c b≠1→b≠g:=fun b hb e=>hb (by rw [e];exact h.col);have hz4:=hg.size;have hvr:∀ b,vr.ownBlock=some b→c b=4+2*n:=hC.readC;have hgv:vr.ownBlock≠some g:=fun e=>by have:=hvr g e;rw [h.col] at this;omega
 have h5:∀ b,b≠g→(w4.setCell ⟨g,1+n*7+6,none⟩ v4).heap[b]? = w4.heap[b]?:=fun b hb=>RowKit.Below.heap_setCell _ _ _ _ hb;have hz5:(w4.setCell ⟨g,1+n*7+6,none⟩ v4).heap.size=w4.heap.size:=by simp [World.setCell]
 have hlen:=h.len;have hcw:∀ b,c b≠0→b<w.heap.size:=h.lt;have hvb:∀ b,v4.ownBlock=some b→(b<w.heap.size∧c b=4+2*n)∨w.heap.size≤b:=fun b hb=>by
  rcases hm b hb with e | e
  ·exact .inl ⟨hcw b (by rw [hvr b e];omega),hvr b e⟩
  ·exact .inr e
 let c':Nat→Nat:=fun b=>if v4.ownBlock=some b then 4+2*n else c b
 have hpc:∀ b,v4.ownBlock≠some b→c' b=c b:=fun b hb=>if_neg hb;have hpv:∀ b,v4.ownBlock=some b→c' b=4+2*n:=fun b hb=>if_pos hb;have hold:∀ b,b<w.heap.size→c' b=c b:=fun b hb=>by
  by_cases e:v4.ownBlock=some b
  ·rw [hpv b e];rcases hvb b e with h | h
   ·exact h.2.symm
   ·omega
  ·exact hpc b e
 have hkeep:∀ b,c b≠0→c b≠1→c b≠4+2*n→(w4.setCell ⟨g,1+n*7+6,none⟩ v4).heap[b]? = w.heap[b]? ∧ c' b=c b:=fun b h0 h1 h2=>by
  have hb:=hcw b h0;exact ⟨(h5 b (hgC b h1)).trans (hg.block b hb (fun e=>h2 (hvr b e.symm))),hold b hb⟩
 have hSC:SessC (w4.setCell ⟨g,1+n*7+6,none⟩ v4) c' n { x with read:=read' } vd vt vg v4:=by
  refine ⟨?_,?_,?_,?_,?_,fun b hb=>hpv b hb⟩
  ·refine (hC.doms.keep fun _ hp=>World.cell?_of_block ?_).more fun b hb=>?_
   ·have e:c _=11:=hp;exact (hkeep _ (by omega) (by omega) (by omega)).1
   ·have e:c b=11:=hb;exact ((hkeep b (by omega) (by omega) (by omega)).2).trans e
  ·refine (hC.tabs.keep fun _ hp=>World.cell?_of_block ?_).more fun b hb=>?_
   ·have e:c _=11:=hp;exact (hkeep _ (by omega) (by omega) (by omega)).1
   ·have e:c b=11:=hb;exact ((hkeep b (by omega) (by omega) (by omega)).2).trans e
  ·refine hC.gone.keep fun b hb=>?_;have e:=hC.goneC b hb;exact (hkeep b (by omega) (by omega) (by omega)).1
  ·intro b hb;have e:=hC.goneC b hb;exact ((hkeep b (by omega) (by omega) (by omega)).2).trans e
  ·exact hO.keep fun b hb=>h5 b (fun e=>by
    rcases hvb b hb with h' | h'
    ·rw [e,h.col] at h';omega
    ·omega)
 have hLL:∀ j v,(jpv { x with read:=read' } vd vt vg v4)[j]? = some v→(vs.set (1+n*7+6) v4)[1+n*7+j]? = some v:=by
  intro j v hj
  match j with
  | 0=>rw [List.getElem?_set_ne (by omega)];exact hL 0 v hj
  | 1=>rw [List.getElem?_set_ne (by omega)];exact hL 1 v hj
  | 2=>rw [List.getElem?_set_ne (by omega)];exact hL 2 v hj
  | 3=>rw [List.getElem?_set_ne (by omega)];exact hL 3 v hj
  | 4=>rw [List.getElem?_set_ne (by omega)];exact hL 4 v hj
  | 5=>rw [List.getElem?_set_ne (by omega)];exact hL 5 v hj
  | 6=>rw [List.getElem?_set_self (by omega)];exact hj
  | j+7=>simp [jpv] at hj
 refine ⟨c',h.setSess hn ((h.cs.grownO hg hgv).set _ (by omega) _) (by simp [hlen]) (fun b h0 h1 h2 h3=>hkeep b h0 h1 h3) ?_ ?_ ?_ ?_ hSC hLL hI,hold,?_,?_,hSC,hLL⟩
 ·rw [hold g hgl];exact h.col
 ·intro b hb;by_cases e:v4.ownBlock=some b
  ·rw [hpv b e] at hb;omega
  ·rw [hpc b e] at hb;exact h.one b hb
 ·intro b hb;rw [hz5];by_cases e:v4.ownBlock=some b
  ·exact (hO.lt b e).2
  ·rw [hpc b e] at hb;have:=hcw b hb;omega
 ·intro j hj;rw [List.getElem?_set_ne (by omega)]
 ·intro b hb;by_cases e:v4.ownBlock=some b
  ·exact .inr e
  ·rw [hpc b e] at hb;exact .inl hb
 ·refine ⟨hg.os,hg.tape,hg.output,by omega,fun b hb h0=>?_⟩;have hbg:b≠g:=fun e=>by rw [e,h.col] at h0;omega
  rw [h5 b hbg,hg.block b hb (fun e=>by have:=hvr b e.symm;omega)]
open Go.Lib (hid)
open Go.RowKit Go.Shelf
theorem StoreC.rowForm {w:World} {c:Nat→Nat} {g:Nat} {σ:StoreD} {vs:List Value} {vl:Value} (h:StoreC w c g σ vs vl):∃ A k,vl = .slice A σ.last k ∧ σ.last≤k∧k≤maxLen∧w.cell? ⟨g,0,none⟩=some vl:=by
 obtain ⟨us,h1,_⟩:=h.row;obtain ⟨A,k,rfl,h2,h3,_⟩:=jah h1;exact ⟨A,k,rfl,h2,h3,h.cs.2.1 0 _ h.v0⟩
theorem jgr (σ:StoreD) (c:Nat→Nat) (g:Nat) (vs:List Value) (vl:Value) (w:World) (h:StoreC w c g σ vs vl) :
  Calls Tryz.prog 45 #[.pointer (some ⟨g,0,none⟩)] w fun e w'=>e = .returned (.int .i64 σ.last)∧w'=w:=by
 obtain ⟨A,k,rfl,h1,h2,h3⟩:=h.rowForm;generalize σ.last=L at *;go_enter Tryz.func45,Tryz.ntmps45
 go_wp2;go_ret;exact ⟨rfl,rfl⟩
theorem jgs (σ:StoreD) (c:Nat→Nat) (g:Nat) (vs:List Value) (vl:Value) (w:World) (h:StoreC w c g σ vs vl) (n:Nat) (hn:n ≤ σ.last) :
  Calls Tryz.prog 47 #[.pointer (some ⟨g,0,none⟩),.int .i64 n] w fun e w'=>∃ vd vt,e = .returned (.agg #[vd,vt])∧jar w' (Im c) (σ.ver n) (.agg #[vd,vt])∧Below w.heap.size w w':=by
 have hz:=h.inv.some_;have hlt:=h.lt;have hrow:=h.row;have hrC:=h.rowC;obtain ⟨A,k,rfl,h1,h2,h3⟩:=h.rowForm;have hg:g<w.heap.size:=h.cs.1;have hb0:=jac w (.cells #[.slice none 0 0,.slice none 0 0] 38);have C0:=hid (Cs.new w [.slice none 0 0,.slice none 0 0] 38);change Hid (Cs (w.alloc (.cells #[.slice none 0 0,.slice none 0 0] 38)) _ _) at C0;have r0:=C0.out.at 0 rfl;have r1:=C0.out.at 1 rfl;have f0:=C0.out.2.2 0 (by decide);have f1:=C0.out.2.2 1 (by decide);have k0:=(hb0.cell (p:=⟨g,0,none⟩) hg).trans h3;generalize hw0:w.alloc (.cells #[.slice none 0 0,.slice none 0 0] 38)=w0 at *;cases n with
 | zero =>
  have HV:Hid (σ.ver 0=jif):=rfl;generalize σ.ver 0=R at *;clear hrow hrC;go_enter Tryz.func47,Tryz.ntmps47
  go_wp2
  (try simp only [Exit.inBlock,Exit.then])
  refine bodyPost_ret (jla (b:=w.heap.size) rfl rfl ((C0.out.set 0 (by simp) _).set 1 (by simp) _)) rfl ⟨_,_,rfl,?_,(hb0.setCell (by simp) _).setCell (by simp) _⟩;rw [HV.out];exact ⟨_,_,rfl,Sl.nil,Sl.nil⟩
 | succ n =>
  have hx:σ.later[n]? = some (σ.ver (n+1)):=by
   unfold StoreD.ver StoreD.states;rw [List.getElem?_cons_succ];unfold StoreD.last at hn;rw [List.getElem?_eq_getElem (by omega)];rfl
  generalize σ.ver (n+1)=R at *;have hsl:Sl Enc.book w (fun b=>c b=2∨c b=11) σ.later (.slice A σ.last k):=hrow.sl (fun b hb=>.inl (hrC b hb)) (fun b hb=>.inr hb);have hnl:n < σ.later.length:=(List.getElem?_eq_some_iff.1 hx).1;obtain ⟨us,hu1,hu2⟩:=hrow;obtain ⟨cs,⟨vd,vt,rfl,g1,g2⟩,d2⟩:=hu2 n R hx;obtain ⟨gb,cap,cur,e,-,hgl,-,-,-⟩:=jzl hu1 (by omega);injection e with e1 e2 e3;subst e1 e3;have c0:=jti hu1 (d2 0 _ rfl);have c1:=jti hu1 (d2 1 _ rfl);have es:Enc.book.size=2:=rfl;rw [es] at c0 c1;have c0':w.cell? ⟨gb,n*2,none⟩=some vd:=c0;have c1':w.cell? ⟨gb,n*2+1,none⟩=some vt:=c1;have GD:=hid g1;have GT:=hid g2;obtain ⟨Ad,cd,rfl,-,-⟩:=g1.form;obtain ⟨At,ct,rfl,-,-⟩:=g2.form;have m0:=(hb0.cell (p:=⟨gb,n*2,none⟩) hgl).trans c0';have m1:=(hb0.cell (p:=⟨gb,n*2+1,none⟩) hgl).trans c1';have hL:σ.last = σ.later.length:=rfl;have hnn:(n:Int)<(σ.last:Int):=by omega
  have hw1:IntKind.i64.wrap (((n+1:Nat):Int)-1)=(n:Int):=by rw [IntKind.wrap_i64];omega
  have hne:((((n+1:Nat):Int)) == 0)=false:=by rw [beq_eq_false_iff_ne];omega
  clear hsl hu1 hu2 d2 c0 c1 c0' c1' g1 g2 hx hL;generalize σ.last=L at *;generalize hN1:((n+1:Nat):Int)=N1 at *;clear hN1;go_enter Tryz.func47,Tryz.ntmps47
  go_wp2
  (try simp only [Exit.inBlock,Exit.then])
  refine bodyPost_ret (jla (b:=w.heap.size) rfl rfl ((C0.out.set 0 (by simp) _).set 1 (by simp) _)) rfl ⟨_,_,rfl,?_,(hb0.setCell (by simp) _).setCell (by simp) _⟩;have hBB:Below w.heap.size w ((w0.setCell ⟨w.heap.size,0,none⟩ (.slice Ad R.doms.length cd)).setCell ⟨w.heap.size,1,none⟩ (.slice At R.tabs.length ct)):=(hb0.setCell (by simp) _).setCell (by simp) _;exact ⟨_,_,rfl,GD.out.keep fun p hp=>hBB.cell (hlt _ (by rw [show c p.block=11 from hp];decide)),GT.out.keep fun p hp=>hBB.cell (hlt _ (by rw [show c p.block=11 from hp];decide))⟩
theorem jgh (σ:StoreD) (c:Nat→Nat) (g:Nat) (vs:List Value) (vl:Value) (w:World) (h:StoreC w c g σ vs vl) (n:Int) :
  Calls Tryz.prog 43 #[.pointer (some ⟨g,0,none⟩),.int .i64 n] w fun e w'=>e = .returned (.bool (jcp σ n))∧w'=w:=by
 have HE:Hid (jcp σ n=(decide (0≤n) && decide (n<4) && (σ.sessN n.toNat).opn)):=rfl;generalize jcp σ n=R at *;by_cases h0:0≤n
 ·by_cases h4:n<4
  ·obtain ⟨k,rfl⟩:∃ k:Nat,n=k:=⟨n.toNat,by omega⟩;have hk:k<4:=by omega
   obtain ⟨vd,vt,vg,vr,-,-,-,hcell⟩:=h.sessAt (je5 h.inv hk);have c0:=(hcell 0 _ rfl).1;have HR:Hid (R=(σ.sessN k).opn):=by show _=_;rw [HE.out];simp [h4]
   clear hcell HE;generalize (σ.sessN k).opn=O at *;have c0':w.cell? ⟨g,1+k*7,none⟩=some (.bool O):=c0;clear c0;go_enter Tryz.func43,Tryz.ntmps43
   go_wp2;go_ret;exact ⟨jad HR.out.symm,rfl⟩
  ·have HR:Hid (R=false):=by show _=_;rw [HE.out];simp [h4]
   have h4':¬ n<4:=h4;clear HE;go_enter Tryz.func43,Tryz.ntmps43
   go_wp2;go_ret;exact ⟨jad HR.out.symm,rfl⟩
 ·have HR:Hid (R=false):=by show _=_;rw [HE.out];simp [h0]
  have h0':n<0:=by omega
  clear HE;go_enter Tryz.func43,Tryz.ntmps43
  go_wp2;go_ret;exact ⟨jad HR.out.symm,rfl⟩
end Go.Proofs.YthmlndmlnlfhnaaGreatDoor
