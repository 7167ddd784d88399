import Derived.Test.YthmlndmlnlfhnaaGreatDoorKadcd5f86
import Derived.Test.YthmlndmlnlfhnaaGreatDoorK98731bb5
set_option maxRecDepth 100000
set_option maxHeartbeats 16000000
namespace Go.Proofs.YthmlndmlnlfhnaaGreatDoor
open Go.Lib (hid)
open Go.RowKit Go.Shelf
def jkz (l:List ActD) (w:World) (e:Ending) (w':World):Prop:=∃ g c vs vl,e = .returned (.tuple #[.pointer (some ⟨g,0,none⟩),.bool true])∧Mine w w' g (runV newV (l.take 50)) c vs vl
theorem jkz.of {l:List ActD} {w w':World} {g:Nat} {c:Nat→Nat} {vs:List Value} {vl:Value} (h:Mine w w' g (runV newV (l.take 50)) c vs vl):jkz l w (.returned (.tuple #[.pointer (some ⟨g,0,none⟩),.bool true])) w':=⟨g,c,vs,vl,rfl,h⟩
theorem ynd (g:Nat) (a:ActD) (r:ReplyD) (Ai:Option Addr) (li ci:Nat) (A1 A2:Option Addr) (l1 k1 l2 k2:Nat) (w:World) :
  Calls Tryz.prog 20 #[.pointer (some ⟨g,0,none⟩),.agg #[.int .i64 a.kind,.int .i64 a.n,.string a.name,.string a.text,.slice Ai li ci],.agg #[.int .i64 r.code,.int .i64 r.n,.string r.text,.slice A1 l1 k1,.slice A2 l2 k2]] w fun e w'=>e = .returned (.bool true)∧Below w.heap.size w w':=by
 go_enter Tryz.func20,Tryz.ntmps20
 go_wp2;go_ret;exact ⟨rfl,bx (jac w _) (jac _ _)⟩
theorem jj2 (l:List ActD) (v:Value) (w:World) (hl:Sl Enc.act w (Old w) l v) (hsz:∀ a∈l,a.name.size≤140737488355328∧a.text.size≤140737488355328) (hv:VarsOk w) :
  Calls Tryz.prog 19 #[v,.func (.func 20) #[] #[]] w (jkz l w):=by
 have HV:=hid hv;have HL:=hid hl;have HSZ:=hid hsz;obtain ⟨A,cp,rfl,hc1,hc2,-⟩:=hl;unfold maxLen at hc2;have eg:∀ args w,(callFunc 20 args).run Tryz.prog w = .ok (.enter 20 args) w:=enters_of Tryz.func20 (by kernel_rfl) rfl;clear hv hsz;go_enter Tryz.func19,Tryz.ntmps19
 go_wp2_with fail
 refine (jn6 _ HV.out).mono ?_;rintro e w1 ⟨rfl,hb1⟩;go_wp2_with fail
 refine (jn3 _).mono ?_;rintro e w2 ⟨rfl,hw2⟩;have M2:Hid (Mine w w2 w1.heap.size newV (c1 w1.heap.size) new0 (.slice none 0 0)):=by rw [hw2];exact Mine.new w w1 _ hb1
 clear hw2;go_wp2;go_loopw [7] (fun i wr=>∃ (k:Nat) (c:Nat→Nat) (vs:List Value) (vl:Value),k≤l.length∧k≤50∧i = .int .i64 k∧Hid (Mine w wr w1.heap.size (runV newV (l.take k)) c vs vl)) (fun i _=>l.length-(intOf i).toNat)
 case atStart=>exact ⟨0,_,_,_,Nat.zero_le _,Nat.zero_le _,rfl,M2⟩
 case round =>
  clear M2;obtain ⟨k,c,vs,vl,hk,hk5,rfl,M⟩:=hrel;by_cases hlt:k<l.length
  ·by_cases h50:k<50
   ·have hi1:(k:Int)<l.length:=by omega
    have hi2:(k:Int)<50:=by omega
    have hi0:(0:Int)≤k:=by omega
    have hbr:=M.out.below;have hsr:=hbr.size;have HLr:=hid (HL.out.onOld hbr);obtain ⟨b,o,x,vi,rfl,hSb,hx,a0,a1,a2,a3,a4,hin⟩:=(HL.out.keep (w':=wr) (fun p hp=>hbr.cell hp)).act_at hlt;have hbw:b<w.heap.size:=hSb;have HIN:=hid hin;obtain ⟨Ai,ci,rfl,-,-⟩:=hin.form;have hsx:=HSZ.out x (List.mem_of_getElem? hx.out);have HT:Hid (runV newV (l.take (k+1))=(doV (runV newV (l.take k)) x).1):=jtk newV hx.out;clear hin hSb;have HA:Hid (jgy wr (fun b=>b<wr.heap.size∧c b=0) x (.agg #[.int .i64 x.kind,.int .i64 x.n,.string x.name,.string x.text,.slice Ai x.inp.length ci])):=⟨_,rfl,HIN.out.more fun q hq=>⟨Nat.lt_of_lt_of_le hq hsr,M.out.old q hq⟩⟩;generalize hRT:runV newV (l.take k)=RT at *;go_wp2_with fail
    refine (M.out.do_ HV.out x _ HA.out hsx.1 hsx.2).mono ?_;rintro e w3 hP;obtain ⟨A1,k1,A2,k2,c3,vs3,vl3,rfl,m3,-,-,-,-⟩:=M.out.did hP;have M3:=hid m3;clear hP m3;rw [← HT.out] at M3;generalize (doV RT x).2=R at *;have hb3:=jac w3 (.cells #[.int .i64 R.code,.int .i64 R.n,.string R.text,.slice A1 R.answers.length k1,.slice A2 R.at_.length k2] 30);have C3:=hid (Cs.new w3 [.int .i64 R.code,.int .i64 R.n,.string R.text,.slice A1 R.answers.length k1,.slice A2 R.at_.length k2] 30);change Hid (Cs (w3.alloc (.cells #[.int .i64 R.code,.int .i64 R.n,.string R.text,.slice A1 R.answers.length k1,.slice A2 R.at_.length k2] 30)) _ _) at C3;have M4:=hid (M3.out.next hb3);have hbr4:Below w.heap.size w (w3.alloc (.cells #[.int .i64 R.code,.int .i64 R.n,.string R.text,.slice A1 R.answers.length k1,.slice A2 R.at_.length k2] 30)):=M4.out.below;have HB:Hid (∀ j,(w3.alloc (.cells #[.int .i64 R.code,.int .i64 R.n,.string R.text,.slice A1 R.answers.length k1,.slice A2 R.at_.length k2] 30)).cell? ⟨b,j,none⟩=wr.cell? ⟨b,j,none⟩):=fun j=>(hbr4.cell (p:=⟨b,j,none⟩) hbw).trans (hbr.cell (p:=⟨b,j,none⟩) hbw).symm;have b0:=(HB.out _).trans a0;have b1:=(HB.out _).trans a1;have b2:=(HB.out _).trans a2;have b3:=(HB.out _).trans a3;have b4:=(HB.out _).trans a4;have q0:=C3.out.at 0 rfl;have q1:=C3.out.at 1 rfl;have q2:=C3.out.at 2 rfl;have q3:=C3.out.at 3 rfl;have q4:=C3.out.at 4 rfl;go_wp2_with fail
    generalize w3.alloc (.cells #[.int .i64 R.code,.int .i64 R.n,.string R.text,.slice A1 R.answers.length k1,.slice A2 R.at_.length k2] 30)=w4 at *;have d0:w4.drew.cell? ⟨b,o+k*5,none⟩=_:=b0;have d1:w4.drew.cell? ⟨b,o+k*5+1,none⟩=_:=b1;have d2:w4.drew.cell? ⟨b,o+k*5+2,none⟩=_:=b2;have d3:w4.drew.cell? ⟨b,o+k*5+3,none⟩=_:=b3;have d4:w4.drew.cell? ⟨b,o+k*5+4,none⟩=_:=b4;have p0:w4.drew.cell? ⟨w3.heap.size,0,none⟩=_:=q0;have p1:w4.drew.cell? ⟨w3.heap.size,1,none⟩=_:=q1;have p2:w4.drew.cell? ⟨w3.heap.size,2,none⟩=_:=q2;have p3:w4.drew.cell? ⟨w3.heap.size,3,none⟩=_:=q3;have p4:w4.drew.cell? ⟨w3.heap.size,4,none⟩=_:=q4;go_region_law (first
     | (go_simp;go_at_call 20;refine (ynd w1.heap.size x R Ai x.inp.length ci A1 A2 R.answers.length k1 R.at_.length k2 _).mono ?_;rintro e w5 ⟨rfl,hb5'⟩;have hb5:Below w4.heap.size w4 w5:=jcw hb5';clear hb5'))
    all_goals
     go_wp2;exact ⟨⟨k+1,c3,vs3,vl3,by omega,by omega,by go_num,M4.out.next hb5⟩,by simp [intOf];omega⟩
   ·have h50':¬ (k:Int)<50:=by omega
    have hi1:(k:Int)<l.length:=by omega
    obtain rfl:k=50:=by omega
    go_wp2;go_ret2;exact jkz.of M.out
  ·have hlt':¬ (k:Int)<l.length:=by omega
   have e1:l.take k=l:=List.take_of_length_le (by omega);have e2:l.take 50=l:=List.take_of_length_le (by omega);rw [e1] at M;have M':Hid (Mine w wr w1.heap.size (runV newV (l.take 50)) c vs vl):=by rw [e2];exact M
   clear e1 e2;go_wp2;go_ret2;exact jkz.of M'.out
theorem yr5 (g:Nat) (a:ActD) (r:ReplyD) (Ai:Option Addr) (li ci:Nat) (A1 A2:Option Addr) (l1 k1 l2 k2:Nat) (w:World) :
  Calls Tryz.prog 59 #[.pointer (some ⟨g,0,none⟩),.agg #[.int .i64 a.kind,.int .i64 a.n,.string a.name,.string a.text,.slice Ai li ci],.agg #[.int .i64 r.code,.int .i64 r.n,.string r.text,.slice A1 l1 k1,.slice A2 l2 k2]] w fun e w'=>e = .returned (.bool true)∧Below w.heap.size w w':=by
 go_enter Tryz.func59,Tryz.ntmps59
 go_wp2;go_ret;exact ⟨rfl,bx (jac w _) (jac _ _)⟩
theorem yti (l:List ActD) (v:Value) (w:World) (hl:Sl Enc.act w (Old w) l v) (hsz:∀ a∈l,a.name.size≤140737488355328∧a.text.size≤140737488355328) (hv:VarsOk w) :
  Calls Tryz.prog 19 #[v,.func (.func 59) #[] #[]] w (jkz l w):=by
 have HV:=hid hv;have HL:=hid hl;have HSZ:=hid hsz;obtain ⟨A,cp,rfl,hc1,hc2,-⟩:=hl;unfold maxLen at hc2;have eg:∀ args w,(callFunc 59 args).run Tryz.prog w = .ok (.enter 59 args) w:=enters_of Tryz.func59 (by kernel_rfl) rfl;clear hv hsz;go_enter Tryz.func19,Tryz.ntmps19
 go_wp2_with fail
 refine (jn6 _ HV.out).mono ?_;rintro e w1 ⟨rfl,hb1⟩;go_wp2_with fail
 refine (jn3 _).mono ?_;rintro e w2 ⟨rfl,hw2⟩;have M2:Hid (Mine w w2 w1.heap.size newV (c1 w1.heap.size) new0 (.slice none 0 0)):=by rw [hw2];exact Mine.new w w1 _ hb1
 clear hw2;go_wp2;go_loopw [7] (fun i wr=>∃ (k:Nat) (c:Nat→Nat) (vs:List Value) (vl:Value),k≤l.length∧k≤50∧i = .int .i64 k∧Hid (Mine w wr w1.heap.size (runV newV (l.take k)) c vs vl)) (fun i _=>l.length-(intOf i).toNat)
 case atStart=>exact ⟨0,_,_,_,Nat.zero_le _,Nat.zero_le _,rfl,M2⟩
 case round =>
  clear M2;obtain ⟨k,c,vs,vl,hk,hk5,rfl,M⟩:=hrel;by_cases hlt:k<l.length
  ·by_cases h50:k<50
   ·have hi1:(k:Int)<l.length:=by omega
    have hi2:(k:Int)<50:=by omega
    have hi0:(0:Int)≤k:=by omega
    have hbr:=M.out.below;have hsr:=hbr.size;have HLr:=hid (HL.out.onOld hbr);obtain ⟨b,o,x,vi,rfl,hSb,hx,a0,a1,a2,a3,a4,hin⟩:=(HL.out.keep (w':=wr) (fun p hp=>hbr.cell hp)).act_at hlt;have hbw:b<w.heap.size:=hSb;have HIN:=hid hin;obtain ⟨Ai,ci,rfl,-,-⟩:=hin.form;have hsx:=HSZ.out x (List.mem_of_getElem? hx.out);have HT:Hid (runV newV (l.take (k+1))=(doV (runV newV (l.take k)) x).1):=jtk newV hx.out;clear hin hSb;have HA:Hid (jgy wr (fun b=>b<wr.heap.size∧c b=0) x (.agg #[.int .i64 x.kind,.int .i64 x.n,.string x.name,.string x.text,.slice Ai x.inp.length ci])):=⟨_,rfl,HIN.out.more fun q hq=>⟨Nat.lt_of_lt_of_le hq hsr,M.out.old q hq⟩⟩;generalize hRT:runV newV (l.take k)=RT at *;go_wp2_with fail
    refine (M.out.do_ HV.out x _ HA.out hsx.1 hsx.2).mono ?_;rintro e w3 hP;obtain ⟨A1,k1,A2,k2,c3,vs3,vl3,rfl,m3,-,-,-,-⟩:=M.out.did hP;have M3:=hid m3;clear hP m3;rw [← HT.out] at M3;generalize (doV RT x).2=R at *;have hb3:=jac w3 (.cells #[.int .i64 R.code,.int .i64 R.n,.string R.text,.slice A1 R.answers.length k1,.slice A2 R.at_.length k2] 30);have C3:=hid (Cs.new w3 [.int .i64 R.code,.int .i64 R.n,.string R.text,.slice A1 R.answers.length k1,.slice A2 R.at_.length k2] 30);change Hid (Cs (w3.alloc (.cells #[.int .i64 R.code,.int .i64 R.n,.string R.text,.slice A1 R.answers.length k1,.slice A2 R.at_.length k2] 30)) _ _) at C3;have M4:=hid (M3.out.next hb3);have hbr4:Below w.heap.size w (w3.alloc (.cells #[.int .i64 R.code,.int .i64 R.n,.string R.text,.slice A1 R.answers.length k1,.slice A2 R.at_.length k2] 30)):=M4.out.below;have HB:Hid (∀ j,(w3.alloc (.cells #[.int .i64 R.code,.int .i64 R.n,.string R.text,.slice A1 R.answers.length k1,.slice A2 R.at_.length k2] 30)).cell? ⟨b,j,none⟩=wr.cell? ⟨b,j,none⟩):=fun j=>(hbr4.cell (p:=⟨b,j,none⟩) hbw).trans (hbr.cell (p:=⟨b,j,none⟩) hbw).symm;have b0:=(HB.out _).trans a0;have b1:=(HB.out _).trans a1;have b2:=(HB.out _).trans a2;have b3:=(HB.out _).trans a3;have b4:=(HB.out _).trans a4;have q0:=C3.out.at 0 rfl;have q1:=C3.out.at 1 rfl;have q2:=C3.out.at 2 rfl;have q3:=C3.out.at 3 rfl;have q4:=C3.out.at 4 rfl;go_wp2_with fail
    generalize w3.alloc (.cells #[.int .i64 R.code,.int .i64 R.n,.string R.text,.slice A1 R.answers.length k1,.slice A2 R.at_.length k2] 30)=w4 at *;have d0:w4.drew.cell? ⟨b,o+k*5,none⟩=_:=b0;have d1:w4.drew.cell? ⟨b,o+k*5+1,none⟩=_:=b1;have d2:w4.drew.cell? ⟨b,o+k*5+2,none⟩=_:=b2;have d3:w4.drew.cell? ⟨b,o+k*5+3,none⟩=_:=b3;have d4:w4.drew.cell? ⟨b,o+k*5+4,none⟩=_:=b4;have p0:w4.drew.cell? ⟨w3.heap.size,0,none⟩=_:=q0;have p1:w4.drew.cell? ⟨w3.heap.size,1,none⟩=_:=q1;have p2:w4.drew.cell? ⟨w3.heap.size,2,none⟩=_:=q2;have p3:w4.drew.cell? ⟨w3.heap.size,3,none⟩=_:=q3;have p4:w4.drew.cell? ⟨w3.heap.size,4,none⟩=_:=q4;go_region_law (first
     | (go_simp;go_at_call 59;refine (yr5 w1.heap.size x R Ai x.inp.length ci A1 A2 R.answers.length k1 R.at_.length k2 _).mono ?_;rintro e w5 ⟨rfl,hb5'⟩;have hb5:Below w4.heap.size w4 w5:=jcw hb5';clear hb5'))
    all_goals
     go_wp2;exact ⟨⟨k+1,c3,vs3,vl3,by omega,by omega,by go_num,M4.out.next hb5⟩,by simp [intOf];omega⟩
   ·have h50':¬ (k:Int)<50:=by omega
    have hi1:(k:Int)<l.length:=by omega
    obtain rfl:k=50:=by omega
    go_wp2;go_ret2;exact jkz.of M.out
  ·have hlt':¬ (k:Int)<l.length:=by omega
   have e1:l.take k=l:=List.take_of_length_le (by omega);have e2:l.take 50=l:=List.take_of_length_le (by omega);rw [e1] at M;have M':Hid (Mine w wr w1.heap.size (runV newV (l.take 50)) c vs vl):=by rw [e2];exact M
   clear e1 e2;go_wp2;go_ret2;exact jkz.of M'.out
open Go.Lib (hid)
open Go.RowKit Go.Shelf
theorem yr0 {p:BookD × List ByteArray} {e:EntD} (hp:okB p.1=true) (h:e.1.kind=2→e.2.code=0→(jdz e.1.text.data.toList).2.2.2=0) :
  okB (jjw p e).1=true∧(jjw p e).1.doms.length≤p.1.doms.length+1∧(jjw p e).1.tabs.length≤p.1.tabs.length+1∧(jjw p e).2.length≤p.2.length+1:=by
 unfold jjw;by_cases k2:e.1.kind=2
 ·rw [if_pos k2];by_cases hc:e.2.code=0
  ·rw [if_neg (by simp [hc])];have hz:=h k2 hc;rcases jkm e.1.text.data.toList with ⟨d,ep,g⟩ | ⟨t,ep,g⟩ | ⟨c,ep,g⟩
   ·rw [ep];have:=jzy p.1 d
    exact ⟨jtc hp g,this.1,Nat.le_succ_of_le this.2,by simp⟩
   ·rw [ep];have:=jvm p.1 t
    exact ⟨jqe hp g,Nat.le_succ_of_le this.1,this.2,by simp⟩
   ·rw [ep] at hz;exact absurd hz g
  ·rw [if_pos hc];exact ⟨hp,by omega,by omega,by omega⟩
 ·rw [if_neg k2];by_cases k3:e.1.kind=3
  ·rw [if_pos k3];split
   ·have:=jha p.1 e.1.name
    exact ⟨jis hp _,Nat.le_succ_of_le this.1,Nat.le_succ_of_le this.2,by simp⟩
   ·exact ⟨hp,by omega,by omega,by omega⟩
  ·rw [if_neg k3];exact ⟨hp,by omega,by omega,by omega⟩
structure MineOk (p:BookD × List ByteArray) (k:Nat):Prop where
 ok:okB p.1=true
 ds:p.1.doms.length≤k
 ts:p.1.tabs.length≤k
 gs:p.2.length≤k
theorem yn9 {h:List EntD} {k:Nat} {e:EntD} (he:h[k]? = some e):endM (h.take (k+1))=jjw (endM (h.take k)) e:=by rw [jai he,jkf]
theorem ysa {b:BookD} {h:List EntD} (ha:jtt b h):∀ k,k≤h.length→MineOk (endM (h.take k)) k:=by
 intro k;induction k with
 | zero=>intro _;exact ⟨jno,Nat.le_refl _,Nat.le_refl _,Nat.le_refl _⟩
 | succ k ih =>
  intro hk;have he:h[k]? = some h[k]:=List.getElem?_eq_getElem (by omega);have i:=ih (by omega);rw [yn9 he];obtain ⟨a,b,c,d⟩:=yr0 i.ok (ha k _ he).1;exact ⟨a,by have:=i.ds;omega,by have:=i.ts;omega,by have:=i.gs;omega⟩
theorem ytu {h:List EntD} {k:Nat} {a:ActD} {r:ReplyD} (h1:(h.map (·.1))[k]? = some a) (h2:(h.map (·.2))[k]? = some r):h[k]? = some (a,r):=by
 rw [List.getElem?_map] at h1 h2;cases e:h[k]? with
 | none=>rw [e] at h1;cases h1
 | some x =>
  rw [e] at h1 h2;injection h1 with h1;injection h2 with h2;rw [← h1,← h2]
theorem yth {σ:StoreD} (hi:Inv σ) (hact:σ.acts<200) {a:ActD} (hk:a.kind=1) (hc:(doV σ a).2.code=0):∃ n:Nat,n<4∧(doV σ a).2.n=n:=by
 have e:doV σ a=jmt (jbj σ) a.n:=by unfold doV;rw [if_neg (by omega),if_pos hk]
 rw [e] at hc ⊢;unfold jmt at hc ⊢;split at hc
 ·cases hc
 ·rename_i h
  rw [if_neg h];split at hc
  ·cases hc
  ·rename_i n hn
   obtain ⟨hlt,_⟩:=List.findIdx?_eq_some_iff_getElem.1 hn;exact ⟨n,by have:=hi.four;have e4:(jbj σ).sess.length = σ.sess.length:=rfl;omega,rfl⟩
def jwd (hist:List (List EntD)) (k:Nat):Prop:=∀ h∈hist,h.length≤k∧∀ e∈h,e.1.text.size≤140737488355328
theorem jwd.at {hist:List (List EntD)} {k:Nat} (h:jwd hist k) (n:Nat):((hist[n]?).getD []).length≤k∧∀ e∈(hist[n]?).getD [],e.1.text.size≤140737488355328:=by
 cases e:hist[n]? with
 | none=>exact ⟨Nat.zero_le _,fun x hx=>by cases hx⟩
 | some y=>exact h y (List.mem_of_getElem? e)
theorem jwd.next {hist:List (List EntD)} {k:Nat} (h:jwd hist k) (σ:StoreD) {a:ActD} (ha:a.text.size≤140737488355328):jwd (yoj hist σ a) (k+1):=by
 have up:jwd hist (k+1):=fun x hx=>⟨Nat.le_succ_of_le (h x hx).1,(h x hx).2⟩;unfold yoj;split
 ·split
  ·intro x hx;rcases List.mem_or_eq_of_mem_set hx with hx | rfl
   ·exact up x hx
   ·exact ⟨Nat.zero_le _,fun e he=>by cases he⟩
  ·exact up
 ·split
  ·intro x hx;rcases List.mem_or_eq_of_mem_set hx with hx | rfl
   ·exact up x hx
   ·obtain ⟨h1,h2⟩:=h.at a.n.toNat;refine ⟨by simp;exact h1,fun e he=>?_⟩;rcases List.mem_append.1 he with he | he
    ·exact h2 e he
    ·rw [List.mem_singleton.1 he];exact ha
  ·exact up
def Fre (w:World) (c d:Nat→Nat):Nat→Prop:=fun b=>b<w.heap.size∧c b=0∧d b=0
abbrev now0:List Value:=[.slice none 0 0,.slice none 0 0,.slice none 0 0,.slice none 0 0,.slice none 0 0,.slice none 0 0,.slice none 0 0,.slice none 0 0]
structure Now (w0 w:World) (c d:Nat→Nat) (nb:Nat) (A:List (List ActD)) (R:List (List ReplyD)) (vs:List Value):Prop where
 cs:Cs w nb vs
 len:vs.length=8
 la:A.length=4
 lr:R.length=4
 nbc:c nb=0
 nbd:d nb=9
 base:w0.heap.size≤nb
 lt:∀ b,d b≠0→b<w.heap.size∧c b=0∧w0.heap.size≤b
 nine:∀ b,d b=9→b=nb
 acts:∀ n l,A[n]? = some l→∃ v,vs[n*2]? = some v∧OwnS Enc.act w w0.heap.size (Fre w c d) 24 v l∧∀ b,v.ownBlock=some b→d b=1+n
 reps:∀ n l,R[n]? = some l→∃ v,vs[n*2+1]? = some v∧OwnS Enc.rep w w0.heap.size (Fre w c d) 30 v l∧∀ b,v.ownBlock=some b→d b=5+n
section
variable {w0 w w':World} {c c' d:Nat→Nat} {nb:Nat} {A:List (List ActD)} {R:List (List ReplyD)} {vs:List Value}
theorem Now.keep (h:Now w0 w c d nb A R vs) (hk:∀ b,b<w.heap.size→c b=0→w'.heap[b]? = w.heap[b]?) (hs:w.heap.size≤w'.heap.size) (hc:∀ b,b<w.heap.size→c' b=c b):Now w0 w' c' d nb A R vs where
 cs:=h.cs.keep (hk nb h.cs.1 h.nbc) hs
 len:=h.len
 la:=h.la
 lr:=h.lr
 nbc:=(hc nb h.cs.1).trans h.nbc
 nbd:=h.nbd
 base:=h.base
 lt:=fun b hb=>by
  obtain ⟨h1,h2,h3⟩:=h.lt b hb;exact ⟨Nat.lt_of_lt_of_le h1 hs,(hc b h1).trans h2,h3⟩
 nine:=h.nine
 acts:=fun n l hl=>by
  have hn:n<4:=by have:=(List.getElem?_eq_some_iff.1 hl).1;rw [h.la] at this;exact this
  obtain ⟨v,h1,h2,h3⟩:=h.acts n l hl;refine ⟨v,h1,(h2.keep (fun k hk'=>?_) (fun k hk'=>hk k hk'.1 hk'.2.1)).more fun k hk'=>⟨Nat.lt_of_lt_of_le hk'.1 hs,(hc k hk'.1).trans hk'.2.1,hk'.2.2⟩,h3⟩;have:=h.lt k (by rw [h3 k hk'];omega)
  exact hk k this.1 this.2.1
 reps:=fun n l hl=>by
  obtain ⟨v,h1,h2,h3⟩:=h.reps n l hl;refine ⟨v,h1,(h2.keep (fun k hk'=>?_) (fun k hk'=>hk k hk'.1 hk'.2.1)).more fun k hk'=>⟨Nat.lt_of_lt_of_le hk'.1 hs,(hc k hk'.1).trans hk'.2.1,hk'.2.2⟩,h3⟩;have:=h.lt k (by rw [h3 k hk'];omega)
  exact hk k this.1 this.2.1
theorem Now.next (h:Now w0 w c d nb A R vs) (hb:Below w.heap.size w w'):Now w0 w' c d nb A R vs:=h.keep (fun b hb' _=>hb.block b hb') hb.size (fun _ _=>rfl)
theorem Now.did (h:Now w0 w c d nb A R vs) (hF:Fr c w w') (hc:∀ b,b<w.heap.size→c' b=c b):Now w0 w' c' d nb A R vs:=h.keep hF.block hF.size hc
theorem Now.new (w0 w:World) (e:Nat) (hs:w0.heap.size≤w.heap.size) :
  Now w0 (w.alloc (.cells now0.toArray e)) (fun _=>0) (fun b=>if b=w.heap.size then 9 else 0) w.heap.size [[],[],[],[]] [[],[],[],[]] now0 where
 cs:=Cs.new w _ e
 len:=rfl
 la:=rfl
 lr:=rfl
 nbc:=rfl
 nbd:=if_pos rfl
 base:=hs
 lt:=fun b hb=>by
  by_cases e:b=w.heap.size
  ·subst e;exact ⟨by simp,rfl,hs⟩
  ·simp only [if_neg e] at hb;exact absurd rfl hb
 nine:=fun b hb=>by
  by_cases e:b=w.heap.size
  ·exact e
  ·simp only [if_neg e] at hb;cases hb
 acts:=fun n l hl=>by
  have hn:n<4:=(List.getElem?_eq_some_iff.1 hl).1;have:n=0∨n=1∨n=2∨n=3:=by omega
  obtain rfl:l = []:=by have:=List.mem_of_getElem? hl;simpa using this
  exact ⟨.slice none 0 0,by rcases this with rfl | rfl | rfl | rfl <;> rfl,OwnS.nil,fun b hb=>by cases hb⟩
 reps:=fun n l hl=>by
  have hn:n<4:=(List.getElem?_eq_some_iff.1 hl).1;have:n=0∨n=1∨n=2∨n=3:=by omega
  obtain rfl:l = []:=by have:=List.mem_of_getElem? hl;simpa using this
  exact ⟨.slice none 0 0,by rcases this with rfl | rfl | rfl | rfl <;> rfl,OwnS.nil,fun b hb=>by cases hb⟩
theorem Now.paint (h:Now w0 w c d nb A R vs) {i m:Nat} {v v':Value} (hm9:m≠9) (hm0:m≠0) (hcl:∀ b,c b≠0→b<w.heap.size) (hv:∀ b,v.ownBlock=some b→d b=m)
  (hvb:∀ b,v'.ownBlock=some b→w0.heap.size≤b∧b<w'.heap.size) (hg:w.grownBy w' v.ownBlock) (hmv:jed w v v') (hi:i<8) :
  ∃ d':Nat→Nat,(∀ b,d b≠0→d' b=d b)∧(∀ b,v'.ownBlock=some b→d' b=m∧b≠nb)∧Cs (w'.setCell ⟨nb,i,none⟩ v') nb (vs.set i v')∧d' nb=9 ∧
   (∀ b,d' b≠0→b<(w'.setCell ⟨nb,i,none⟩ v').heap.size∧c b=0∧w0.heap.size≤b)∧(∀ b,d' b=9→b=nb) ∧
   (∀ b,b≠nb→(w'.setCell ⟨nb,i,none⟩ v').heap[b]? = w'.heap[b]?)∧(∀ b,b<w.heap.size→b≠nb→d b≠m→(w'.setCell ⟨nb,i,none⟩ v').heap[b]? = w.heap[b]?)∧(∀ b,Fre w c d b→Fre (w'.setCell ⟨nb,i,none⟩ v') c d' b∧b≠nb):=by
 have hnb:nb<w.heap.size:=h.cs.1;have hz:=hg.size;have hsz:(w'.setCell ⟨nb,i,none⟩ v').heap.size=w'.heap.size:=by simp [World.setCell]
 have hvn:v.ownBlock≠some nb:=fun e=>by have:=hv nb e;rw [h.nbd] at this;exact hm9 this.symm
 have hblk:∀ b,b≠nb→(w'.setCell ⟨nb,i,none⟩ v').heap[b]? = w'.heap[b]?:=fun b hb=>RowKit.Below.heap_setCell _ _ _ _ hb;have hcase:∀ b,v'.ownBlock=some b→d b=m∨w.heap.size≤b:=fun b hb=>(hmv b hb).imp (hv b) id;have hnew:∀ b,w.heap.size≤b→d b=0∧c b=0:=fun b hb =>
  ⟨by
    by_cases e:d b=0
    ·exact e
    ·have:=(h.lt b e).1;omega,
  by
    by_cases e:c b=0
    ·exact e
    ·have:=hcl b e;omega⟩
 refine ⟨fun b=>if v'.ownBlock=some b then m else d b,fun b hb=>?_,fun b hb=>⟨if_pos hb,fun e=>?_⟩,(h.cs.grownO hg hvn).set i (by rw [h.len];exact hi) _,?_,fun b hb=>?_,fun b hb=>?_,hblk,fun b hb h1 h2=>?_,fun b hb=>?_⟩
 ·show (if v'.ownBlock=some b then m else d b)=d b
  split
  ·rename_i e
   rcases hcase b e with h' | h'
   ·exact h'.symm
   ·exact absurd (hnew b h').1 hb
  ·rfl
 ·subst e;rcases hcase b hb with h' | h'
  ·rw [h.nbd] at h';exact hm9 h'.symm
  ·omega
 ·show (if v'.ownBlock=some nb then m else d nb)=9
  split
  ·rename_i e
   rcases hcase nb e with h' | h'
   ·rw [h.nbd] at h';exact absurd h'.symm hm9
   ·omega
  ·exact h.nbd
 ·simp only at hb;rw [hsz];split at hb
  ·rename_i e
   obtain ⟨h1,h2⟩:=hvb b e;refine ⟨h2,?_,h1⟩;rcases hcase b e with h' | h'
   ·exact (h.lt b (by rw [h'];exact hm0)).2.1
   ·exact (hnew b h').2
  ·obtain ⟨h1,h2,h3⟩:=h.lt b hb;exact ⟨Nat.lt_of_lt_of_le h1 hz,h2,h3⟩
 ·simp only at hb;split at hb
  ·exact absurd hb hm9
  ·exact h.nine b hb
 ·rw [hblk b h1];exact hg.block b hb fun e=>h2 (hv b e.symm)
 ·obtain ⟨h1,h2,h3⟩:=hb;refine ⟨⟨by rw [hsz];omega,h2,?_⟩,fun e=>?_⟩
  ·show (if v'.ownBlock=some b then m else d b)=0
   split
   ·rename_i e
    rcases hcase b e with h' | h'
    ·rw [h3] at h';exact h'.symm
    ·omega
   ·exact h3
  ·rw [e,h.nbd] at h3;cases h3
theorem Now.pushA (h:Now w0 w c d nb A R vs) {n:Nat} {v v':Value} {l l':List ActD} (hcl:∀ b,c b≠0→b<w.heap.size) (hl:A[n]? = some l) (hv:∀ b,v.ownBlock=some b→d b=1+n)
  (ho:OwnS Enc.act w' w0.heap.size (Fre w c d) 24 v' l') (hg:w.grownBy w' v.ownBlock) (hmv:jed w v v') :
  ∃ d',Now w0 (w'.setCell ⟨nb,n*2,none⟩ v') c d' nb (A.set n l') R (vs.set (n*2) v')∧∀ b,Fre w c d b→Fre (w'.setCell ⟨nb,n*2,none⟩ v') c d' b:=by
 have hn:n<4:=by have:=(List.getElem?_eq_some_iff.1 hl).1;rw [h.la] at this;exact this
 obtain ⟨d',p1,p2,p3,p4,p5,p6,p7,p8,p9⟩:=h.paint (i:=n*2) (m:=1+n) (by omega) (by omega) hcl hv (fun b hb=>ho.lt b hb) hg hmv (by omega);have hlen:=h.len;refine ⟨d',⟨p3,by simp [hlen],by simp [h.la],h.lr,h.nbc,p4,h.base,p5,p6,fun m x hx=>?_,fun m x hx=>?_⟩,fun b hb=>(p9 b hb).1⟩
 ·by_cases e:n=m
  ·subst e;rw [List.getElem?_set_self (by rw [h.la];exact hn)] at hx;injection hx with hx;subst hx;refine ⟨v',by rw [List.getElem?_set_self (by omega)],(ho.keep (fun k hk=>p7 k (p2 k hk).2) (fun k hk=>p7 k (p9 k hk).2)).more fun k hk=>(p9 k hk).1,fun b hb=>(p2 b hb).1⟩
  ·rw [List.getElem?_set_ne e] at hx;have hm4:m<4:=by have:=(List.getElem?_eq_some_iff.1 hx).1;rw [h.la] at this;exact this
   obtain ⟨u,h1,h2,h3⟩:=h.acts m x hx;refine ⟨u,by rw [List.getElem?_set_ne (by omega)];exact h1,(h2.keep (fun k hk=>?_) (fun k hk=>p8 k hk.1 (p9 k hk).2 (by rw [hk.2.2];omega))).more fun k hk=>(p9 k hk).1,fun b hb=>(p1 b (by rw [h3 b hb];omega)).trans (h3 b hb)⟩;have e1:=h3 k hk;exact p8 k (h.lt k (by rw [e1];omega)).1 (fun e=>by rw [e,h.nbd] at e1;omega) (by rw [e1];omega)
 ·have hm4:m<4:=by have:=(List.getElem?_eq_some_iff.1 hx).1;rw [h.lr] at this;exact this
  obtain ⟨u,h1,h2,h3⟩:=h.reps m x hx;refine ⟨u,by rw [List.getElem?_set_ne (by omega)];exact h1,(h2.keep (fun k hk=>?_) (fun k hk=>p8 k hk.1 (p9 k hk).2 (by rw [hk.2.2];omega))).more fun k hk=>(p9 k hk).1,fun b hb=>(p1 b (by rw [h3 b hb];omega)).trans (h3 b hb)⟩;have e1:=h3 k hk;exact p8 k (h.lt k (by rw [e1];omega)).1 (fun e=>by rw [e,h.nbd] at e1;omega) (by rw [e1];omega)
theorem Now.pushR (h:Now w0 w c d nb A R vs) {n:Nat} {v v':Value} {l l':List ReplyD} (hcl:∀ b,c b≠0→b<w.heap.size) (hl:R[n]? = some l) (hv:∀ b,v.ownBlock=some b→d b=5+n)
  (ho:OwnS Enc.rep w' w0.heap.size (Fre w c d) 30 v' l') (hg:w.grownBy w' v.ownBlock) (hmv:jed w v v') :
  ∃ d',Now w0 (w'.setCell ⟨nb,n*2+1,none⟩ v') c d' nb A (R.set n l') (vs.set (n*2+1) v'):=by
 have hn:n<4:=by have:=(List.getElem?_eq_some_iff.1 hl).1;rw [h.lr] at this;exact this
 obtain ⟨d',p1,p2,p3,p4,p5,p6,p7,p8,p9⟩:=h.paint (i:=n*2+1) (m:=5+n) (by omega) (by omega) hcl hv (fun b hb=>ho.lt b hb) hg hmv (by omega);have hlen:=h.len;refine ⟨d',⟨p3,by simp [hlen],h.la,by simp [h.lr],h.nbc,p4,h.base,p5,p6,fun m x hx=>?_,fun m x hx=>?_⟩⟩
 ·have hm4:m<4:=by have:=(List.getElem?_eq_some_iff.1 hx).1;rw [h.la] at this;exact this
  obtain ⟨u,h1,h2,h3⟩:=h.acts m x hx;refine ⟨u,by rw [List.getElem?_set_ne (by omega)];exact h1,(h2.keep (fun k hk=>?_) (fun k hk=>p8 k hk.1 (p9 k hk).2 (by rw [hk.2.2];omega))).more fun k hk=>(p9 k hk).1,fun b hb=>(p1 b (by rw [h3 b hb];omega)).trans (h3 b hb)⟩;have e1:=h3 k hk;exact p8 k (h.lt k (by rw [e1];omega)).1 (fun e=>by rw [e,h.nbd] at e1;omega) (by rw [e1];omega)
 ·by_cases e:n=m
  ·subst e;rw [List.getElem?_set_self (by rw [h.lr];exact hn)] at hx;injection hx with hx;subst hx;refine ⟨v',by rw [List.getElem?_set_self (by omega)],(ho.keep (fun k hk=>p7 k (p2 k hk).2) (fun k hk=>p7 k (p9 k hk).2)).more fun k hk=>(p9 k hk).1,fun b hb=>(p2 b hb).1⟩
  ·rw [List.getElem?_set_ne e] at hx;have hm4:m<4:=by have:=(List.getElem?_eq_some_iff.1 hx).1;rw [h.lr] at this;exact this
   obtain ⟨u,h1,h2,h3⟩:=h.reps m x hx;refine ⟨u,by rw [List.getElem?_set_ne (by omega)];exact h1,(h2.keep (fun k hk=>?_) (fun k hk=>p8 k hk.1 (p9 k hk).2 (by rw [hk.2.2];omega))).more fun k hk=>(p9 k hk).1,fun b hb=>(p1 b (by rw [h3 b hb];omega)).trans (h3 b hb)⟩;have e1:=h3 k hk;exact p8 k (h.lt k (by rw [e1];omega)).1 (fun e=>by rw [e,h.nbd] at e1;omega) (by rw [e1];omega)
theorem Now.old0 (h:Now w0 w c d nb A R vs) {q:Nat} (hq:q<w0.heap.size∨w.heap.size≤q):d q=0:=by
 by_cases e:d q=0
 ·exact e
 ·have:=h.lt q e;omega
theorem Now.clear (h:Now w0 w c d nb A R vs) {n:Nat} (hn:n<4) (hcl:∀ b,c b≠0→b<w.heap.size) :
  ∃ d',Now w0 ((w.setCell ⟨nb,n*2,none⟩ (.slice none 0 0)).setCell ⟨nb,n*2+1,none⟩ (.slice none 0 0)) c d' nb (A.set n []) (R.set n []) ((vs.set (n*2) (.slice none 0 0)).set (n*2+1) (.slice none 0 0)):=by
 have gr:∀ (w:World),w.grownBy w none:=fun w=>⟨rfl,rfl,rfl,Nat.le_refl _,fun _ _ _=>rfl⟩;obtain ⟨l1,hl1⟩:∃ l,A[n]? = some l:=⟨A[n]'(by rw [h.la];exact hn),List.getElem?_eq_getElem (by rw [h.la];exact hn)⟩;obtain ⟨d1,h1,-⟩:=h.pushA (v:=.slice none 0 0) (v':=.slice none 0 0) (l':=[]) hcl hl1 (fun b hb=>by cases hb) OwnS.nil (gr w) (fun b hb=>by cases hb);obtain ⟨l2,hl2⟩:∃ l,R[n]? = some l:=⟨R[n]'(by rw [h.lr];exact hn),List.getElem?_eq_getElem (by rw [h.lr];exact hn)⟩;have hz:(w.setCell ⟨nb,n*2,none⟩ (.slice none 0 0)).heap.size=w.heap.size:=by simp [World.setCell]
 exact h1.pushR (v:=.slice none 0 0) (v':=.slice none 0 0) (l':=[]) (fun b hb=>by rw [hz];exact hcl b hb) hl2 (fun b hb=>by cases hb) OwnS.nil (gr _) (fun b hb=>by cases hb)
end
end Go.Proofs.YthmlndmlnlfhnaaGreatDoor
