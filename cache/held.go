package cache

import (
	"quadrille/api"
	"quadrille/net"
)

// byteBits is how many bits a byte has.
const byteBits = 8

// attempt does what a call asks for, and tells why it gave up, if it did.
func attempt(call func()) (err api.Errno) {
	defer func() {
		if why, gaveUp := recover().(api.Errno); gaveUp {
			err = why
		}
	}()
	call()
	return api.OK
}

// must gives up where something does not hold. It stands ahead of all changes, so that who gave up has changed nothing.
func must(holds bool, why api.Errno) {
	if !holds {
		panic(why)
	}
}

// isNone tells whether there is no cache.
func (c *Cache) isNone() bool { return c == nil || c.lines == nil }

// mustBe gives up what is asked of no cache.
func (c *Cache) mustBe() { must(!c.isNone(), api.ErrNil) }

// mustBeTo gives up a message that may not be, or that is to another node.
func (c *Cache) mustBeTo(m api.Msg) {
	must(net.Check(m) == api.OK && m.To == c.id, api.ErrArg)
}

// isWidth tells whether an access may have so many bytes.
func isWidth(width int) bool { return width == 1 || width == 2 || width == 4 }

// isAlone tells whether a line of a state is there as no other cache has it.
func isAlone(s api.State) bool { return s == api.StateE || s == api.StateM }

// isThere tells whether a line of a state is there to read, or to write.
func isThere(s api.State, write bool) bool { return isAlone(s) || s == api.StateS && !write }

// chosen tells which of some things a number chooses.
func chosen(pick, things int) int {
	left := pick % things // below 0 of a pick below 0
	return (left + things) % things
}

// another tells a pointer to a value of its own; nil of none.
func another[T any](p *T) *T {
	if p == nil {
		return nil
	}
	value := *p
	return &value
}

// reach tells the line that is there with the bytes of an access, and where in it they begin. Since the width divides the address, they end in it.
func (c *Cache) reach(addr uint32, width int, write bool) (l api.Line, first int) {
	c.mustBe()
	must(isWidth(width) && addr%uint32(width) == 0, api.ErrArg)
	l, _ = c.lines.Find(addr / api.LineBytes) // of none there is nothing, which is the state I
	must(isThere(l.State, write), api.ErrMiss)
	return l, int(addr % api.LineBytes)
}

// gives tells whether that line is given back.
func (c *Cache) gives(line uint32) bool { return c.given != nil && c.given.Number == line }

// makeRoom puts out the line that a number chooses of a line's set, if that has no room for it.
func (c *Cache) makeRoom(line uint32, pick int) []api.Msg {
	victim, is := c.lines.Victim(line, pick)
	if !is {
		return nil
	}
	return c.putOut(victim)
}

// putOut has a line there no more: one that is S is dropped, any other one is given back.
func (c *Cache) putOut(l api.Line) []api.Msg {
	if l.State == api.StateS {
		c.lines.Drop(l.Number)
		return nil
	}
	must(c.given == nil, api.ErrBusy)
	c.lines.Drop(l.Number)
	c.given = &l
	return []api.Msg{c.message(api.MsgPut, l)}
}

// ask has a line asked for, and tells the message that does so.
func (c *Cache) ask(line uint32, write bool) api.Msg {
	c.asked = &struct {
		line  uint32
		write bool
	}{line, write}
	if write {
		return c.signal(api.MsgGetM, line)
	}
	return c.signal(api.MsgGetS, line)
}

// message tells a message to the home that brings a line's bytes.
func (c *Cache) message(kind api.MsgKind, l api.Line) api.Msg {
	return api.Msg{Kind: kind, From: c.id, To: api.Home, Line: l.Number, Bytes: l.Bytes}
}

// signal tells a message to the home that brings no bytes.
func (c *Cache) signal(kind api.MsgKind, line uint32) api.Msg {
	return c.message(kind, api.Line{Number: line})
}
