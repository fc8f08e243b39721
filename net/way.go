package net

import (
	"iter"

	"quadrille/api"
)

// isNone tells whether there is no net.
func (n *Net) isNone() bool { return n == nil || n.most == 0 }

// ahead tells the messages that are ahead of a place, cut so that there is no room behind them: what is put there does not go over those that are kept.
func (n *Net) ahead(at int) []api.Msg { return n.sent[:at:at] }

// going goes over the messages that are on their way to a node.
func (n *Net) going(node int) iter.Seq[api.Msg] {
	return func(yield func(api.Msg) bool) {
		if n.isNone() {
			return
		}
	over:
		for _, m := range n.sent {
			switch {
			case m.To != node:
				continue over
			case !yield(m):
				break over
			}
		}
	}
}

// chosen tells which of some things a number chooses.
func chosen(pick, things int) int {
	left := pick % things // below 0 of a pick below 0
	return (left + things) % things
}
