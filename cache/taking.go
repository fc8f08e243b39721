package cache

import "quadrille/api"

// kinds has what each kind of message to a cache does: all those that may be to one.
func (c *Cache) kinds() map[api.MsgKind]func(api.Msg) []api.Msg {
	return map[api.MsgKind]func(api.Msg) []api.Msg{
		api.MsgDataS:  c.dataS,
		api.MsgDataE:  c.dataE,
		api.MsgDataM:  c.dataM,
		api.MsgShare:  c.share,
		api.MsgYield:  c.yield,
		api.MsgDrop:   c.drop,
		api.MsgPutAck: c.putAck,
	}
}

// dataS has a line come that is asked for to read, as others may have it.
func (c *Cache) dataS(m api.Msg) []api.Msg { return c.come(m, false, api.StateS) }

// dataE has a line come that is asked for to read, alone.
func (c *Cache) dataE(m api.Msg) []api.Msg { return c.come(m, false, api.StateE) }

// dataM has a line come that is asked for to write; it has the home's bytes till it is written.
func (c *Cache) dataM(m api.Msg) []api.Msg { return c.come(m, true, api.StateE) }

// come has the line there that is asked for so.
func (c *Cache) come(m api.Msg, write bool, s api.State) []api.Msg {
	line, toWrite, is := c.Asked()
	mayCome(is && line == m.Line && toWrite == write)
	c.lines.Put(api.Line{Number: line, State: s, Bytes: m.Bytes}) // there is room: it was made when the line was asked for
	c.asked = nil
	return []api.Msg{c.signal(api.MsgDone, line)}
}

// share tells the bytes of a line, which others may have from now on, too.
func (c *Cache) share(m api.Msg) []api.Msg {
	l := c.own(m.Line)
	if !c.gives(l.Number) {
		c.lines.Put(api.Line{Number: l.Number, State: api.StateS, Bytes: l.Bytes})
	}
	return c.back(l)
}

// yield tells the bytes of a line, and has it no more.
func (c *Cache) yield(m api.Msg) []api.Msg {
	l := c.own(m.Line)
	c.lines.Drop(l.Number) // nothing of one that is given back, which is not there
	return c.back(l)
}

// drop has a line no more; also of one that was dropped before, since the home is not told of that.
func (c *Cache) drop(m api.Msg) []api.Msg {
	mayCome(!isAlone(c.State(m.Line)))
	c.lines.Drop(m.Line)
	return []api.Msg{c.signal(api.MsgAck, m.Line)}
}

// putAck ends the giving back of a line.
func (c *Cache) putAck(m api.Msg) []api.Msg {
	mayCome(c.gives(m.Line))
	c.given = nil
	return nil
}

// own tells the line whose bytes the home may ask for: one that is there alone, or is given back.
func (c *Cache) own(line uint32) api.Line {
	if c.gives(line) {
		return *c.given
	}
	l, _ := c.lines.Find(line)
	mayCome(isAlone(l.State))
	return l
}

// back tells the message that brings the home the bytes that it asked for.
func (c *Cache) back(l api.Line) []api.Msg {
	return []api.Msg{c.message(api.MsgBack, l)}
}

// mayCome gives up a message that may not come now.
func mayCome(holds bool) { must(holds, api.ErrStray) }
