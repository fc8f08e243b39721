package net

import "quadrille/api"

// want is what a kind of message wants: that it goes to the home, or else from there, and that it brings bytes.
type want struct{ home, bytes bool }

// wants has what each kind wants; what is no kind is not among them.
func wants() map[api.MsgKind]want {
	all := make(map[api.MsgKind]want, api.MsgDone)
	for kind := api.MsgNone + 1; kind <= api.MsgDone; kind++ {
		all[kind] = wantOf(kind)
	}
	return all
}

// wantOf tells what one kind wants: to bring bytes, and what those want that go the same way without any.
func wantOf(kind api.MsgKind) want {
	var w want
	switch kind {
	case api.MsgPut, api.MsgBack:
		w.bytes = true
		fallthrough
	case api.MsgGetS, api.MsgGetM, api.MsgAck, api.MsgDone:
		w.home = true
	case api.MsgDataS, api.MsgDataE, api.MsgDataM:
		w.bytes = true
	}
	return w
}

// mayBe tells whether a message is as its kind wants it.
func mayBe(m api.Msg) bool {
	w, is := wants()[m.Kind]
	if !is || !w.bytes && m.Bytes != [api.LineBytes]byte{} {
		return false
	}
	if w.home {
		return isCache(m.From) && m.To == api.Home
	}
	return m.From == api.Home && isCache(m.To)
}

// isCache tells whether a node is a hart's cache.
func isCache(node int) bool { return node >= 0 && node < api.MaxHarts }
