package home_test

import "testing"

// strays takes rows behind others: none of these may come, and none changes the line.
func strays(t *testing.T, first []row, ins ...string) {
	t.Helper()
	entry := "nobody"
	if len(first) > 0 {
		entry = first[len(first)-1].entry
	}
	for _, in := range ins {
		first = append(first, row{in, "stray", entry, 0}, row{in, "stray", entry, 0})
	}
	steps(t, first...)
}

// backs, acks and dones are the messages of one kind, of each cache.
func backs() []string { return []string{"0 Back", "1 Back", "2 Back", "3 Back"} }
func acks() []string  { return []string{"0 Ack", "1 Ack", "2 Ack", "3 Ack"} }
func dones() []string { return []string{"0 Done", "1 Done", "2 Done", "3 Done"} }

// all is lists behind each other.
func all(lists ...[]string) []string {
	var together []string
	for _, list := range lists {
		together = append(together, list...)
	}
	return together
}

func TestP12_1StrayOfOneThatIsNotBusy(t *testing.T) {
	for _, first := range [][]row{nil, owned("1"), shared(), sharedByThree(), sharedByAll()} {
		strays(t, first, all(backs(), acks(), dones())...)
	}
	strays(t, append(owned("1"), row{"1 Put", "1 PutAck", "nobody", 3}), all(backs(), acks(), dones())...)
}

// TestP12_1StrayWhileAnOwnerIsAsked has all but the owner's bytes.
func TestP12_1StrayWhileAnOwnerIsAsked(t *testing.T) {
	for _, asked := range []row{
		{"2 GetS", "1 Share", "owner 1; 2 GetS waits 1", 0},
		{"2 GetM", "1 Yield", "owner 1; 2 GetM waits 1", 0},
	} {
		strays(t, append(owned("1"), asked), all([]string{"0 Back", "2 Back", "3 Back"}, acks(), dones())...)
	}
}

// TestP12_1StrayWhileSharersDrop has all but what a sharer that doesn't ask says of its dropping.
func TestP12_1StrayWhileSharersDrop(t *testing.T) {
	first := append(shared(), row{"0 GetM", "1 Drop", "sharer 0, sharer 1; 0 GetM waits 1", 0})
	strays(t, first, all(backs(), dones(), []string{"0 Ack", "2 Ack", "3 Ack"})...)
	first = append(shared(), row{"2 GetM", "0 Drop, 1 Drop", "sharer 0, sharer 1; 2 GetM waits 2", 0})
	strays(t, first, all(backs(), dones(), []string{"2 Ack", "3 Ack"})...)
	first = append(first, row{"0 Ack", "", "sharer 1; 2 GetM waits 1", 0})
	strays(t, first, all(backs(), dones(), []string{"0 Ack", "2 Ack", "3 Ack"})...)
	first = append(sharedByAll(), row{"3 GetM", "0 Drop, 1 Drop, 2 Drop", "sharer 0, sharer 1, sharer 2, sharer 3; 3 GetM waits 3", 0})
	strays(t, first, all(backs(), dones(), []string{"3 Ack"})...)
}

// TestP12_1StrayWhileTold has all but that it is there, of who asks.
func TestP12_1StrayWhileTold(t *testing.T) {
	told := []row{{"1 GetS", "1 DataE", "owner 1; 1 GetS told", 0}}
	strays(t, told, all(backs(), acks(), []string{"0 Done", "2 Done", "3 Done"})...)
	told = []row{{"0 GetM", "0 DataM", "owner 0; 0 GetM told", 0}}
	strays(t, told, all(backs(), acks(), []string{"1 Done", "2 Done", "3 Done"})...)
	told = append(shared(), row{"2 GetS", "2 DataS", "sharer 0, sharer 1, sharer 2; 2 GetS told", 0})
	strays(t, told, all(backs(), acks(), []string{"0 Done", "1 Done", "3 Done"})...)
	told = append(owned("1"), row{"2 GetM", "1 Yield", "owner 1; 2 GetM waits 1", 0}, row{"1 Back", "2 DataM", "owner 2; 2 GetM told", 4})
	strays(t, told, all(backs(), acks(), []string{"0 Done", "1 Done", "3 Done"})...)
}

// TestP12_1StrayTwice has each that was taken come a second time.
func TestP12_1StrayTwice(t *testing.T) {
	first := append(owned("0"), row{"1 GetS", "0 Share", "owner 0; 1 GetS waits 1", 0})
	strays(t, first, "0 Done")
	first = append(first, row{"0 Back", "1 DataS", "sharer 0, sharer 1; 1 GetS told", 4})
	strays(t, first, "0 Back")
	first = append(first, row{"1 Done", "", "sharer 0, sharer 1", 0})
	strays(t, first, "1 Done", "0 Back")
	first = append(first, row{"3 GetM", "0 Drop, 1 Drop", "sharer 0, sharer 1; 3 GetM waits 2", 0}, row{"1 Ack", "", "sharer 0; 3 GetM waits 1", 0})
	strays(t, first, "1 Ack")
	first = append(first, row{"0 Ack", "3 DataM", "owner 3; 3 GetM told", 0})
	strays(t, first, "0 Ack", "1 Ack")
	first = append(first, row{"3 Done", "", "owner 3", 0})
	strays(t, first, "3 Done", "0 Ack")
}

// TestP12_1StrayWithSomeThatWait has strays while others wait: none of those begins.
func TestP12_1StrayWithSomeThatWait(t *testing.T) {
	first := append(owned("0"),
		row{"1 GetM", "0 Yield", "owner 0; 1 GetM waits 1", 0},
		row{"2 GetS", "", "owner 0; 1 GetM waits 1; then 2 GetS", 0},
		row{"0 Put", "", "owner 0; 1 GetM waits 1; then 2 GetS, 0 Put", 0},
	)
	strays(t, first, all(dones(), acks(), []string{"1 Back", "2 Back"})...)
	first = append(first, row{"0 Back", "1 DataM", "owner 1; 1 GetM told; then 2 GetS, 0 Put", 6})
	strays(t, first, all(backs(), acks(), []string{"0 Done", "2 Done"})...)
}
