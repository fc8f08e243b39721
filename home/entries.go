package home

import (
	"slices"

	"quadrille/api"
	"quadrille/net"
)

// nobody is the owner of a line that none has.
const nobody = -1

// isNone tells whether there is no home.
func (h *Home) isNone() bool { return h == nil || h.memory == nil }

// reach tells whether there is such a line.
func (h *Home) reach(line uint32) api.Errno {
	if h.isNone() {
		return api.ErrNil
	}
	_, err := h.memory.Line(line)
	return err
}

// refusal tells why a message is not taken, whatever its line's entry is.
func (h *Home) refusal(m api.Msg) api.Errno {
	switch {
	case h.isNone():
		return api.ErrNil
	case net.Check(m) != api.OK || m.To != api.Home:
		return api.ErrArg
	}
	return h.reach(m.Line)
}

// entry tells the entry of a line.
func (h *Home) entry(line uint32) *api.Entry {
	if e, is := h.entries[line]; is {
		return e
	}
	return &api.Entry{Owner: nobody}
}

// copied tells another entry with the same, whose queue goes on apart.
func copied(e *api.Entry) *api.Entry {
	other := *e
	other.Queue = slices.Clone(e.Queue)
	return &other
}
