package home

import (
	"quadrille/api"
	"quadrille/image"
)

// post is messages of a line that are to be sent.
type post struct {
	line uint32
	sent []api.Msg
}

// send has a message to a cache sent behind the others.
func (p *post) send(kind api.MsgKind, to int, bytes [api.LineBytes]byte) {
	p.sent = append(p.sent, api.Msg{Kind: kind, From: api.Home, To: to, Line: p.line, Bytes: bytes})
}

// taking is how a message is taken: what is sent by that, the entry of its line, and memory.
type taking struct {
	post
	*api.Entry
	memory *image.Image
}

// requests has what each kind does that waits while its line is busy.
func (t *taking) requests() map[api.MsgKind]func(api.Msg) {
	return map[api.MsgKind]func(api.Msg){
		api.MsgGetS: t.getS,
		api.MsgGetM: t.getM,
		api.MsgPut:  t.put,
	}
}

// answers has what each kind does that a request brings about.
func (t *taking) answers() map[api.MsgKind]func(api.Msg) {
	return map[api.MsgKind]func(api.Msg){
		api.MsgBack: t.back,
		api.MsgAck:  t.ack,
		api.MsgDone: t.done,
	}
}

// take takes a message to the home.
func (t *taking) take(m api.Msg) {
	if answer, is := t.answers()[m.Kind]; is {
		answer(m)
		return
	}
	t.Queue = append(t.Queue, m)
	t.goOn()
}

// goOn has those that wait begin, as far as the line is not busy.
func (t *taking) goOn() {
	begin := t.requests()
	for !t.Busy && len(t.Queue) > 0 {
		m := t.Queue[0]
		t.Queue = t.Queue[1:]
		begin[m.Kind](m)
	}
}

// getS begins to let a cache have the line to read.
func (t *taking) getS(m api.Msg) {
	t.open(m)
	switch {
	case t.Owner != nobody:
		t.ask(api.MsgShare, t.Owner)
	case len(t.others()) > 0:
		t.Sharers[t.Asks] = true
		t.tell(api.MsgDataS)
	default:
		t.give(api.MsgDataE)
	}
}

// getM begins to let a cache have the line to write.
func (t *taking) getM(m api.Msg) {
	t.open(m)
	if t.Owner != nobody {
		t.ask(api.MsgYield, t.Owner)
		return
	}
	for _, cache := range t.others() {
		t.ask(api.MsgDrop, cache)
	}
	t.giveIfDropped()
}

// put takes a line back, if its cache is still the one that may write it.
func (t *taking) put(m api.Msg) {
	if t.Owner == m.From {
		t.keep(m)
		t.Owner = nobody
	}
	t.send(api.MsgPutAck, m.From, [api.LineBytes]byte{})
}

// back takes the bytes that the owner was asked for.
func (t *taking) back(m api.Msg) {
	must(t.Waits > 0 && t.Owner == m.From)
	t.keep(m)
	if t.Kind == api.MsgGetM {
		t.give(api.MsgDataM)
		return
	}
	t.Owner = nobody
	t.Sharers[m.From], t.Sharers[t.Asks] = true, true
	t.tell(api.MsgDataS)
}

// ack takes it that a sharer has dropped the line.
func (t *taking) ack(m api.Msg) {
	must(t.Waits > 0 && t.Owner == nobody && t.Sharers[m.From] && t.Asks != m.From)
	t.Sharers[m.From] = false
	t.Waits--
	t.giveIfDropped()
}

// done ends what is under way.
func (t *taking) done(m api.Msg) {
	must(t.Told && t.Asks == m.From)
	*t.Entry = api.Entry{Owner: t.Owner, Sharers: t.Sharers, Queue: t.Queue}
	t.goOn()
}

// open makes the line busy by a request; an owner that asks has the line no more, else it need not ask.
func (t *taking) open(m api.Msg) {
	t.Busy, t.Asks, t.Kind = true, m.From, m.Kind
	if t.Owner == t.Asks {
		t.Owner = nobody
	}
}

// others tells the sharers but who asks, rising.
func (t *taking) others() []int {
	var others []int
	for cache, shares := range t.Sharers {
		if shares && cache != t.Asks {
			others = append(others, cache)
		}
	}
	return others
}

// ask has a cache asked, whose answer is waited for.
func (t *taking) ask(kind api.MsgKind, cache int) {
	t.send(kind, cache, [api.LineBytes]byte{})
	t.Waits++
}

// giveIfDropped gives who asks the line to write, once no answer is to come.
func (t *taking) giveIfDropped() {
	if t.Waits == 0 {
		t.give(api.MsgDataM)
	}
}

// give gives who asks the line alone.
func (t *taking) give(kind api.MsgKind) {
	t.Owner, t.Sharers = t.Asks, [api.MaxHarts]bool{}
	t.tell(kind)
}

// tell has the bytes that memory has now sent to who asks.
func (t *taking) tell(kind api.MsgKind) {
	bytes, _ := t.memory.Line(t.line) // there is such a line, else its message was refused
	t.send(kind, t.Asks, bytes)
	t.Waits, t.Told = 0, true
}

// keep makes the bytes of a message memory's.
func (t *taking) keep(m api.Msg) { t.memory.SetLine(t.line, m.Bytes) }

// must gives up what may not come now.
func must(holds bool) {
	if !holds {
		panic(api.ErrStray)
	}
}
