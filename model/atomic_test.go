package model_test

import (
	"testing"

	"quadrille/api"
)

// pair is an lr and its sc of hart 0, with events of others behind them.
func pair(others ...api.Event) api.Execution {
	return execution(append([]api.Event{lr(wordX), sc(wordX)}, others...)...)
}

// swap is an EvBoth of hart 0, with events of others behind it.
func swap(others ...api.Event) api.Execution {
	return execution(append([]api.Event{both(wordX)}, others...)...)
}

// TestP8_1AtomicPair has stores between, behind and ahead of the event that an lr reads from and its sc.
func TestP8_1AtomicPair(t *testing.T) {
	other, third := of(1, store(wordX)), of(2, store(wordX))
	hold(t,
		row{"nothing beside it", pair(), "coa"},
		row{"another hart's between", come(pair(other), wordX, e2, e1), "co"},
		row{"another hart's behind", pair(other), "coa"},
		row{"another hart's is read from", come(read(pair(other), e0, e2), wordX, e2, e1), "coa"},
		row{"another hart's ahead of what is read from", come(read(pair(other, third), e0, e3), wordX, e2, e3, e1), "coa"},
		row{"another hart's between, another one ahead", come(read(pair(other, third), e0, e2), wordX, e2, e3, e1), "co"},
		row{"both between", come(pair(other, third), wordX, e3, e2, e1), "co"},
		row{"one between, one behind", come(pair(other, third), wordX, e2, e1, e3), "co"},
		row{"another hart's EvBoth between", come(pair(of(1, both(wordX))), wordX, e2, e1), "co"},
		row{"another hart's EvBoth behind", read(pair(of(1, both(wordX))), e2, e1), "coa"},
		row{"another hart's sc between", come(pair(of(1, sc(wordX))), wordX, e2, e1), "co"},
		row{"another hart's store of another word", pair(of(1, store(wordY)), of(1, store(wordZ))), "coa"},
		row{"its own store between, in code, too", execution(lr(wordX), store(wordX), sc(wordX)), "coa"},
		row{"its own and another one's between", come(execution(lr(wordX), store(wordX), sc(wordX), other), wordX, e1, e3, e2), "co"},
		row{"another one's behind its own", come(execution(lr(wordX), store(wordX), sc(wordX), other), wordX, e3, e1, e2), "co"},
		row{"its own EvBoth between", execution(lr(wordX), both(wordX), sc(wordX)), "coa"},
		row{"its own store is read from", read(execution(store(wordX), lr(wordX), sc(wordX)), e1, e0), "coa"},
		row{"its own store is read from, another one's between", come(read(execution(store(wordX), lr(wordX), sc(wordX), other), e1, e0), wordX, e0, e3, e2), "co"},
		row{"its own store is read from, another one's ahead", come(read(execution(store(wordX), lr(wordX), sc(wordX), other), e1, e0), wordX, e3, e0, e2), "coa"},
		row{"its own store behind the lr's hart's sc", execution(lr(wordX), sc(wordX), store(wordX)), "coa"},
	)
}

// TestP8_1AtomicBackward has loads that read from what comes behind the store: in coherence order nothing is between the two.
func TestP8_1AtomicBackward(t *testing.T) {
	other, third := of(1, store(wordX)), of(2, store(wordX))
	hold(t,
		row{"an lr reads from its sc", read(pair(), e0, e1), "oa"},
		row{"an lr reads from its sc, another one ahead", come(read(pair(other), e0, e1), wordX, e2, e1), "oa"},
		row{"an lr reads from what comes behind its sc", read(pair(other), e0, e2), "a"},
		row{"and another one is between", come(read(pair(other, third), e0, e2), wordX, e1, e3, e2), "a"},
		row{"an EvBoth reads from what comes behind it", read(swap(other), e0, e1), "a"},
		row{"and another one is between, of an EvBoth", come(read(swap(other, third), e0, e1), wordX, e0, e2, e1), "a"},
	)
}

// TestP8_1AtomicUnpaired has stores between that spoil nothing, as no load is paired with the store that comes behind them.
func TestP8_1AtomicUnpaired(t *testing.T) {
	other := of(3, store(wordX))
	hold(t,
		row{"an sc alone", come(execution(sc(wordX), other), wordX, e1, e0), "coa"},
		row{"a load ahead that is no lr", come(execution(load(wordX), sc(wordX), other), wordX, e2, e1), "coa"},
		row{"a store that is no sc", come(execution(lr(wordX), store(wordX), other), wordX, e2, e1), "coa"},
		row{"neither", come(execution(load(wordX), store(wordX), other), wordX, e2, e1), "coa"},
		row{"an lr of another word", come(execution(lr(wordY), sc(wordX), other), wordX, e2, e1), "coa"},
		row{"an lr of another word between", come(execution(lr(wordX), lr(wordY), sc(wordX), other), wordX, e3, e2), "coa"},
		row{"an sc of another word between", come(execution(lr(wordX), sc(wordY), sc(wordX), other), wordX, e3, e2), "coa"},
		row{"an lr of another hart", come(execution(lr(wordX), of(1, sc(wordX)), other), wordX, e2, e1), "coa"},
		row{"a second sc", come(execution(lr(wordX), sc(wordX), sc(wordX), other), wordX, e1, e3, e2), "coa"},
		row{"an lr alone", execution(lr(wordX), other), "coa"},
	)
}

// TestP8_1AtomicPaired has which load counts, and which pair, where there are several.
func TestP8_1AtomicPaired(t *testing.T) {
	other := of(1, store(wordX))
	two := execution(lr(wordX), sc(wordX), lr(wordX), sc(wordX), other)
	hold(t,
		row{"the last lr counts, which reads from the other one", come(read(execution(lr(wordX), lr(wordX), sc(wordX), other), e1, e3), wordX, e3, e2), "coa"},
		row{"the last lr counts, which reads an older one", come(read(execution(lr(wordX), lr(wordX), sc(wordX), other), e0, e3), wordX, e3, e2), ""},
		row{"two pairs", come(read(two, e2, e1), wordX, e1, e3, e4), "coa"},
		row{"two pairs, the first one is spoilt", come(read(two, e2, e1), wordX, e4, e1, e3), "co"},
		row{"two pairs, the second one is spoilt", come(read(two, e2, e1), wordX, e1, e4, e3), "co"},
		row{"two pairs, the second one reads from the other one", come(read(two, e2, e4), wordX, e1, e4, e3), "coa"},
		row{"of hart 2, by hart 0", come(execution(store(wordX), of(2, lr(wordX)), of(2, sc(wordX))), wordX, e0, e2), "co"},
		row{"of hart 3, by hart 2", come(execution(of(2, store(wordX)), of(3, lr(wordX)), of(3, sc(wordX))), wordX, e0, e2), "co"},
		row{"pairs of two harts, both of the begin", execution(lr(wordX), sc(wordX), of(1, lr(wordX)), of(1, sc(wordX))), "co"},
		row{"pairs of two harts, one reads from the other", read(execution(lr(wordX), sc(wordX), of(1, lr(wordX)), of(1, sc(wordX))), e2, e1), "coa"},
		row{"of another word", come(execution(lr(wordY), sc(wordY), of(1, store(wordY)), of(1, store(wordX))), wordY, e2, e1), "co"},
		row{"of words in turn", come(execution(lr(wordY), sc(wordY), lr(wordX), sc(wordX), of(1, store(wordX))), wordX, e4, e3), "co"},
	)
}

// TestP8_1AtomicBoth has stores between, behind and ahead of the event that an EvBoth reads from and it.
func TestP8_1AtomicBoth(t *testing.T) {
	other, third := of(1, store(wordX)), of(2, store(wordX))
	hold(t,
		row{"nothing beside it", swap(), "coa"},
		row{"another hart's between", come(swap(other), wordX, e1, e0), ""},
		row{"another hart's behind", swap(other), "coa"},
		row{"another hart's is read from", come(read(swap(other), e0, e1), wordX, e1, e0), "coa"},
		row{"another hart's ahead of what is read from", come(read(swap(other, third), e0, e2), wordX, e1, e2, e0), "coa"},
		row{"another hart's between, another one ahead", come(read(swap(other, third), e0, e1), wordX, e1, e2, e0), ""},
		row{"another hart's EvBoth between", execution(both(wordX), of(1, both(wordX))), ""},
		row{"another hart's EvBoth is read from", read(execution(both(wordX), of(1, both(wordX))), e1, e0), "coa"},
		row{"another hart's sc between", come(swap(of(1, sc(wordX))), wordX, e1, e0), ""},
		row{"its own store between", execution(store(wordX), both(wordX)), "a"},
		row{"its own EvBoth between", execution(both(wordX), both(wordX)), "a"},
		row{"its own store is read from", read(execution(store(wordX), both(wordX)), e1, e0), "coa"},
		row{"its own store is read from, another one's between", come(read(execution(store(wordX), both(wordX), other), e1, e0), wordX, e0, e2, e1), ""},
		row{"its own store is read from, another one's ahead", come(read(execution(store(wordX), both(wordX), other), e1, e0), wordX, e2, e0, e1), "coa"},
		row{"its own store behind", execution(both(wordX), store(wordX)), "coa"},
		row{"between, of another word", execution(both(wordX), of(1, store(wordY))), "coa"},
	)
}
