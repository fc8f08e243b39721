package home_test

import "testing"

// owned is the rows that make a cache the owner.
func owned(cache string) []row {
	return []row{
		{cache + " GetS", cache + " DataE", "owner " + cache + "; " + cache + " GetS told", 0},
		{cache + " Done", "", "owner " + cache, 0},
	}
}

// shared is the rows that make 0 and 1 sharers, whose bytes are the fourth message's.
func shared() []row {
	return append(owned("0"),
		row{"1 GetS", "0 Share", "owner 0; 1 GetS waits 1", 0},
		row{"0 Back", "1 DataS", "sharer 0, sharer 1; 1 GetS told", 4},
		row{"1 Done", "", "sharer 0, sharer 1", 0},
	)
}

// sharedByThree is the rows that make 3 a sharer, too.
func sharedByThree() []row {
	return append(shared(),
		row{"3 GetS", "3 DataS", "sharer 0, sharer 1, sharer 3; 3 GetS told", 0},
		row{"3 Done", "", "sharer 0, sharer 1, sharer 3", 0},
	)
}

// sharedByAll is the rows that make all of them sharers.
func sharedByAll() []row {
	return append(sharedByThree(),
		row{"2 GetS", "2 DataS", "sharer 0, sharer 1, sharer 2, sharer 3; 2 GetS told", 0},
		row{"2 Done", "", "sharer 0, sharer 1, sharer 2, sharer 3", 0},
	)
}

// behind takes rows behind others.
func behind(t *testing.T, first []row, rows ...row) {
	t.Helper()
	steps(t, append(first, rows...)...)
}

func TestP12_1GetSOfNobodys(t *testing.T) {
	for _, cache := range []string{"0", "1", "2", "3"} {
		steps(t, owned(cache)...)
	}
}

// TestP12_1GetSOfTheOwner has an owner that asks: it is none any more, so none is asked for bytes, and memory's go back to it.
func TestP12_1GetSOfTheOwner(t *testing.T) {
	behind(t, owned("2"),
		row{"2 GetS", "2 DataE", "owner 2; 2 GetS told", 0},
		row{"2 Done", "", "owner 2", 0},
	)
}

func TestP12_1GetSOfAnOwners(t *testing.T) {
	behind(t, owned("3"),
		row{"0 GetS", "3 Share", "owner 3; 0 GetS waits 1", 0},
		row{"3 Back", "0 DataS", "sharer 0, sharer 3; 0 GetS told", 4},
		row{"0 Done", "", "sharer 0, sharer 3", 0},
	)
	behind(t, owned("0"),
		row{"3 GetS", "0 Share", "owner 0; 3 GetS waits 1", 0},
		row{"0 Back", "3 DataS", "sharer 0, sharer 3; 3 GetS told", 4},
		row{"3 Done", "", "sharer 0, sharer 3", 0},
	)
}

// TestP12_1GetSOfSharers has one that asks which shares already, and ones that don't.
func TestP12_1GetSOfSharers(t *testing.T) {
	steps(t, sharedByAll()...)
	behind(t, shared(),
		row{"0 GetS", "0 DataS", "sharer 0, sharer 1; 0 GetS told", 0},
		row{"0 Done", "", "sharer 0, sharer 1", 0},
		row{"1 GetS", "1 DataS", "sharer 0, sharer 1; 1 GetS told", 0},
		row{"1 Done", "", "sharer 0, sharer 1", 0},
		row{"2 GetS", "2 DataS", "sharer 0, sharer 1, sharer 2; 2 GetS told", 0},
		row{"2 Done", "", "sharer 0, sharer 1, sharer 2", 0},
	)
}

func TestP12_1GetMOfNobodys(t *testing.T) {
	for _, cache := range []string{"0", "1", "2", "3"} {
		steps(t,
			row{cache + " GetM", cache + " DataM", "owner " + cache + "; " + cache + " GetM told", 0},
			row{cache + " Done", "", "owner " + cache, 0},
		)
	}
}

func TestP12_1GetMOfTheOwner(t *testing.T) {
	behind(t, owned("1"),
		row{"1 GetM", "1 DataM", "owner 1; 1 GetM told", 0},
		row{"1 Done", "", "owner 1", 0},
		row{"1 GetM", "1 DataM", "owner 1; 1 GetM told", 0},
	)
}

func TestP12_1GetMOfAnOwners(t *testing.T) {
	behind(t, owned("1"),
		row{"2 GetM", "1 Yield", "owner 1; 2 GetM waits 1", 0},
		row{"1 Back", "2 DataM", "owner 2; 2 GetM told", 4},
		row{"2 Done", "", "owner 2", 0},
		row{"0 GetM", "2 Yield", "owner 2; 0 GetM waits 1", 0},
		row{"2 Back", "0 DataM", "owner 0; 0 GetM told", 7},
		row{"0 Done", "", "owner 0", 0},
	)
}

// TestP12_1GetMOfSharers has one that asks which shares already, and one that doesn't; each other sharer drops the line, in any order.
func TestP12_1GetMOfSharers(t *testing.T) {
	behind(t, shared(),
		row{"0 GetM", "1 Drop", "sharer 0, sharer 1; 0 GetM waits 1", 0},
		row{"1 Ack", "0 DataM", "owner 0; 0 GetM told", 0},
		row{"0 Done", "", "owner 0", 0},
	)
	behind(t, shared(),
		row{"3 GetM", "0 Drop, 1 Drop", "sharer 0, sharer 1; 3 GetM waits 2", 0},
		row{"1 Ack", "", "sharer 0; 3 GetM waits 1", 0},
		row{"0 Ack", "3 DataM", "owner 3; 3 GetM told", 0},
		row{"3 Done", "", "owner 3", 0},
	)
	behind(t, sharedByThree(),
		row{"2 GetM", "0 Drop, 1 Drop, 3 Drop", "sharer 0, sharer 1, sharer 3; 2 GetM waits 3", 0},
		row{"3 Ack", "", "sharer 0, sharer 1; 2 GetM waits 2", 0},
		row{"0 Ack", "", "sharer 1; 2 GetM waits 1", 0},
		row{"1 Ack", "2 DataM", "owner 2; 2 GetM told", 0},
		row{"2 Done", "", "owner 2", 0},
	)
	behind(t, sharedByAll(),
		row{"1 GetM", "0 Drop, 2 Drop, 3 Drop", "sharer 0, sharer 1, sharer 2, sharer 3; 1 GetM waits 3", 0},
		row{"0 Ack", "", "sharer 1, sharer 2, sharer 3; 1 GetM waits 2", 0},
		row{"2 Ack", "", "sharer 1, sharer 3; 1 GetM waits 1", 0},
		row{"3 Ack", "1 DataM", "owner 1; 1 GetM told", 0},
		row{"1 Done", "", "owner 1", 0},
	)
}

func TestP12_1PutOfTheOwner(t *testing.T) {
	behind(t, owned("3"),
		row{"3 Put", "3 PutAck", "nobody", 3},
		row{"3 Put", "3 PutAck", "nobody", 0},
		row{"0 GetS", "0 DataE", "owner 0; 0 GetS told", 0},
		row{"0 Done", "", "owner 0", 0},
		row{"0 Put", "0 PutAck", "nobody", 7},
		row{"1 GetM", "1 DataM", "owner 1; 1 GetM told", 0},
	)
}

// TestP12_1PutOfOthers has ones that give back what they have not to write: their bytes are not memory's.
func TestP12_1PutOfOthers(t *testing.T) {
	steps(t,
		row{"0 Put", "0 PutAck", "nobody", 0},
		row{"3 Put", "3 PutAck", "nobody", 0},
	)
	behind(t, owned("1"),
		row{"0 Put", "0 PutAck", "owner 1", 0},
		row{"2 Put", "2 PutAck", "owner 1", 0},
		row{"1 Put", "1 PutAck", "nobody", 5},
	)
	behind(t, shared(),
		row{"0 Put", "0 PutAck", "sharer 0, sharer 1", 0},
		row{"2 Put", "2 PutAck", "sharer 0, sharer 1", 0},
		row{"1 Put", "1 PutAck", "sharer 0, sharer 1", 0},
		row{"2 GetM", "0 Drop, 1 Drop", "sharer 0, sharer 1; 2 GetM waits 2", 0},
	)
}

// TestP12_1PutMeetsShare has an owner that gives a line back while it is asked for the bytes: it tells them first, its MsgPut waits, and changes nothing.
func TestP12_1PutMeetsShare(t *testing.T) {
	behind(t, owned("0"),
		row{"1 GetS", "0 Share", "owner 0; 1 GetS waits 1", 0},
		row{"0 Put", "", "owner 0; 1 GetS waits 1; then 0 Put", 0},
		row{"0 Back", "1 DataS", "sharer 0, sharer 1; 1 GetS told; then 0 Put", 5},
		row{"1 Done", "0 PutAck", "sharer 0, sharer 1", 0},
		row{"1 GetM", "0 Drop", "sharer 0, sharer 1; 1 GetM waits 1", 0},
		row{"0 Ack", "1 DataM", "owner 1; 1 GetM told", 0},
	)
	behind(t, owned("0"),
		row{"1 GetM", "0 Yield", "owner 0; 1 GetM waits 1", 0},
		row{"0 Put", "", "owner 0; 1 GetM waits 1; then 0 Put", 0},
		row{"0 Back", "1 DataM", "owner 1; 1 GetM told; then 0 Put", 5},
		row{"1 Done", "0 PutAck", "owner 1", 0},
	)
}

// TestP12_1PutOfWhoAsks has one that gives a line back while it asks for it: its bytes are memory's behind that, if it is the owner then.
func TestP12_1PutOfWhoAsks(t *testing.T) {
	steps(t,
		row{"2 GetM", "2 DataM", "owner 2; 2 GetM told", 0},
		row{"2 Put", "", "owner 2; 2 GetM told; then 2 Put", 0},
		row{"2 Done", "2 PutAck", "nobody", 2},
	)
}
