package events_test

import (
	"math"
	"slices"
	"testing"

	"quadrille/api"
	"quadrille/events"
)

// row is a change of some, and what Check answers then.
type row struct {
	name   string
	change func(e *api.Execution)
	want   api.Errno
}

// on changes one event.
func on(number int, change func(v *api.Event)) func(e *api.Execution) {
	return func(e *api.Execution) { change(&e.Events[number]) }
}

// hold holds Check against rows; of what may not be there are no pairs.
func hold(t *testing.T, rows []row) {
	t.Helper()
	for _, r := range rows {
		e := changed(r.change)
		if err := events.Check(e); err != r.want {
			t.Errorf("%s: %v, want %v", r.name, err, r.want)
		}
		for i, l := range relations(e) {
			if r.want != api.OK && l != nil {
				t.Errorf("%s: relation %d has %v", r.name, i, l)
			}
		}
	}
}

func TestP6_1Some(t *testing.T) {
	if len(some().Events) != howMany {
		t.Fatal("the numbers of some are not right")
	}
	hold(t, []row{{"some", func(*api.Execution) {}, api.OK}})
}

func TestP6_1Examples(t *testing.T) {
	e := api.Execution{
		Events: []api.Event{{Hart: -1, Kind: api.EvBegin}, {Kind: api.EvStore, Value: 1}, {Hart: 1, Kind: api.EvLoad, ReadValue: 1}},
		From:   []int{-1, -1, 1},
		Order:  [][]int{{0, 1}},
	}
	if err := events.Check(e); err != api.OK {
		t.Errorf("the first example: %v", err)
	}
	e.From[2] = 0
	if err := events.Check(e); err != api.ErrFrom {
		t.Errorf("the third example: %v", err)
	}
	e.Events[2].ReadValue = 0
	if err := events.Check(e); err != api.OK {
		t.Errorf("the second example: %v", err)
	}
}

// TestP6_1None has no event, told by nil and by empty lists.
func TestP6_1None(t *testing.T) {
	for _, e := range []api.Execution{{}, {Events: []api.Event{}, From: []int{}, Order: [][]int{}}} {
		if err := events.Check(e); err != api.OK {
			t.Errorf("%v: %v", e, err)
		}
		for i, l := range relations(e) {
			if len(l) != 0 {
				t.Errorf("relation %d of none has %v", i, l)
			}
		}
	}
	if err := events.Check(api.Execution{From: []int{-1}}); err != api.ErrFrom {
		t.Errorf("no event, From of one number: %v", err)
	}
	if err := events.Check(api.Execution{Order: [][]int{nil}}); err != api.ErrOrder {
		t.Errorf("no event, Order of one list: %v", err)
	}
	fence := api.Execution{Events: []api.Event{{Hart: 1, Kind: api.EvFence}}, From: []int{-1}}
	if err := events.Check(fence); err != api.OK {
		t.Errorf("a fence alone, which has no address: %v", err)
	}
}

func TestP6_1Long(t *testing.T) {
	if err := events.Check(loads(api.MaxEvents - 1)); err != api.OK {
		t.Errorf("MaxEvents events: %v", err)
	}
	if err := events.Check(loads(api.MaxEvents)); err != api.ErrLong {
		t.Errorf("one more: %v", err)
	}
	if l := relations(loads(api.MaxEvents)); l[0] != nil || l[1] != nil || l[2] != nil || l[3] != nil {
		t.Errorf("one more: %v", l)
	}
	e := loads(0)
	for range api.MaxEvents - 1 {
		e.Order[0] = append(e.Order[0], len(e.Events))
		e.Events = append(e.Events, api.Event{Kind: api.EvStore})
		e.From = append(e.From, -1)
	}
	if err := events.Check(e); err != api.OK {
		t.Errorf("MaxEvents events that store: %v", err)
	}
	if l := events.Co(e); len(l) != api.MaxEvents*(api.MaxEvents-1)/2 {
		t.Errorf("MaxEvents events that store: Co has %d pairs", len(l))
	}
}

// TestP6_1Two has two of the errors at once, or all of them.
func TestP6_1Two(t *testing.T) {
	event := func(e *api.Execution) { e.Events[1].Hart = api.MaxHarts }
	from := func(e *api.Execution) { e.From[1] = 1 }
	order := func(e *api.Execution) { e.Order = nil }
	for _, r := range []struct {
		many   int
		change []func(e *api.Execution)
		want   api.Errno
	}{
		{api.MaxEvents, []func(*api.Execution){event}, api.ErrLong},
		{api.MaxEvents, []func(*api.Execution){from}, api.ErrLong},
		{api.MaxEvents, []func(*api.Execution){order}, api.ErrLong},
		{api.MaxEvents, []func(*api.Execution){event, from, order}, api.ErrLong},
		{4, []func(*api.Execution){event, from}, api.ErrEvent},
		{4, []func(*api.Execution){event, order}, api.ErrEvent},
		{4, []func(*api.Execution){order, from, event}, api.ErrEvent},
		{4, []func(*api.Execution){order, from}, api.ErrFrom},
		{4, []func(*api.Execution){order}, api.ErrOrder},
		{4, []func(*api.Execution){from}, api.ErrFrom},
	} {
		e := loads(r.many)
		for _, change := range r.change {
			change(&e)
		}
		if err := events.Check(e); err != r.want {
			t.Errorf("%d loads, %d faults: %v, want %v", r.many, len(r.change), err, r.want)
		}
	}
}

// TestP6_1Harts has a Hart that may not be, for each Kind.
func TestP6_1Harts(t *testing.T) {
	hart := func(number, hart int) func(e *api.Execution) {
		return on(number, func(v *api.Event) { v.Hart = hart })
	}
	for number := range howMany {
		for _, h := range []int{-2, math.MinInt, api.MaxHarts, math.MaxInt} {
			hold(t, []row{{"a Hart that is none", hart(number, h), api.ErrEvent}})
		}
		if number > beginY {
			hold(t, []row{{"a Hart of -1", hart(number, -1), api.ErrEvent}})
		}
	}
	hold(t, []row{
		{"an EvBegin of hart 0", hart(beginX, 0), api.ErrEvent},
		{"the last EvBegin of hart 0", hart(beginY, 0), api.ErrEvent},
		{"an EvBegin of hart 3", hart(beginX, 3), api.ErrEvent},
		{"harts 0, 1", func(e *api.Execution) {
			for i := both2; i < howMany; i++ {
				e.Events[i].Hart = 1
			}
		}, api.OK},
		{"harts 1, 3", func(e *api.Execution) {
			for i := lrY; i < howMany; i++ {
				e.Events[i].Hart++
			}
		}, api.OK},
		{"harts 3, 2", func(e *api.Execution) {
			for i := lrY; i < both2; i++ {
				e.Events[i].Hart = 3
			}
		}, api.ErrEvent},
		{"harts 0, 2, 1", hart(storeX, 1), api.ErrEvent},
		{"harts 0, 2, 0", hart(fence2, 0), api.ErrEvent},
		{"harts 0, 2, 3", func(e *api.Execution) { e.Events[storeX].Hart, e.Events[storeX].Datas = 3, nil }, api.OK},
	})
}

// TestP6_1Kinds has what is no Kind, of an event of a hart that has nothing but zeros else.
func TestP6_1Kinds(t *testing.T) {
	for _, k := range []api.EventKind{api.EvNone, -1, api.EvBegin + 1, math.MinInt, math.MaxInt} {
		e := loads(2)
		e.Events[2].Kind, e.From[2] = k, -1
		if err := events.Check(e); err != api.ErrEvent {
			t.Errorf("Kind %d: %v", k, err)
		}
		e = loads(2)
		e.Events[0].Kind = k
		if err := events.Check(e); err != api.ErrEvent {
			t.Errorf("Kind %d of the first: %v", k, err)
		}
		e = api.Execution{Events: []api.Event{{Kind: k}}, From: []int{-1}}
		if err := events.Check(e); err != api.ErrEvent {
			t.Errorf("Kind %d alone: %v", k, err)
		}
	}
}

// TestP6_1Aligned has addresses that are no multiples of 4, of all events of an address, and the last one that is.
func TestP6_1Aligned(t *testing.T) {
	moved := func(by uint32) func(e *api.Execution) {
		return func(e *api.Execution) {
			for i := range e.Events {
				if e.Events[i].Addr == y {
					e.Events[i].Addr += by
				}
			}
		}
	}
	hold(t, []row{
		{"by 1", moved(1), api.ErrEvent}, {"by 2", moved(2), api.ErrEvent}, {"by 3", moved(3), api.ErrEvent},
		{"by 4", moved(4), api.OK}, {"by -4", moved(1<<32 - 4), api.OK}, {"to the last word", moved(1<<32 - 12), api.OK},
		{"to the last byte", moved(1<<32 - 9), api.ErrEvent}, {"to x", moved(1<<32 - 8), api.ErrEvent},
		{"a load by 1", on(loadY, func(v *api.Event) { v.Addr++ }), api.ErrEvent},
	})
}

// what tells each Kind's event in some, and the parts that its Kind names.
var what = []struct {
	number int
	named  string
}{
	{beginY, "Addr Value"},
	{loadX, "Addr ReadValue Aq Rl Reserved Addrs Ctrls"},
	{scY, "Addr Value Aq Rl Reserved Addrs Datas Ctrls"},
	{both0, "Addr Value ReadValue Aq Rl Addrs Datas Ctrls"},
	{fence0, "Pred Succ Ctrls"},
}

// parts tells how each part is made other than zero, such that no other part or event hangs on it.
var parts = []struct {
	name string
	set  func(v *api.Event)
}{
	{"Addr", func(v *api.Event) { v.Addr |= y }},
	{"Value", func(v *api.Event) { v.Value |= 1 << 31 }},
	{"ReadValue", func(v *api.Event) { v.ReadValue |= 1 << 31 }},
	{"Aq", func(v *api.Event) { v.Aq = true }},
	{"Rl", func(v *api.Event) { v.Rl = true }},
	{"Pred", func(v *api.Event) { v.Pred = 1 }},
	{"Succ", func(v *api.Event) { v.Succ = 2 }},
	{"Reserved", func(v *api.Event) { v.Reserved = true }},
	{"Addrs", func(v *api.Event) { v.Addrs = []int{lrY} }},
	{"Datas", func(v *api.Event) { v.Datas = []int{lrY} }},
	{"Ctrls", func(v *api.Event) { v.Ctrls = []int{lrY} }},
}

// TestP6_1Parts makes each part of each Kind other than zero: where its Kind does not name it, it may not be.
func TestP6_1Parts(t *testing.T) {
	for _, k := range what {
		for _, p := range parts {
			e := changed(on(k.number, p.set))
			want := api.ErrEvent
			if has(k.named, p.name) {
				want = api.OK
			}
			err := events.Check(e)
			if want == api.OK && (err == api.ErrFrom || err == api.ErrOrder) {
				err = api.OK // the event may be, if not what others have of it
			}
			if err != want {
				t.Errorf("event %d with %s: %v, want %v", k.number, p.name, err, want)
			}
		}
	}
	for _, p := range parts[8:] {
		e := changed(on(beginY, func(v *api.Event) { p.set(v); v.Addrs, v.Datas, v.Ctrls = []int{}, []int{}, []int{} }))
		if err := events.Check(e); err != api.OK {
			t.Errorf("empty lists of an EvBegin: %v", err)
		}
	}
}

// has tells whether a word is among words.
func has(words, word string) bool {
	for len(words) >= len(word) {
		if words[:len(word)] == word && (len(words) == len(word) || words[len(word)] == ' ') {
			return true
		}
		for len(words) > 0 && words[0] != ' ' {
			words = words[1:]
		}
		words = words[min(1, len(words)):]
	}
	return false
}

func TestP6_1Fences(t *testing.T) {
	sets := func(pred, succ int) func(e *api.Execution) {
		return on(fence0, func(v *api.Event) { v.Pred, v.Succ = pred, succ })
	}
	for pred := range 4 {
		for succ := range 4 {
			hold(t, []row{{"a fence", sets(pred, succ), api.OK}})
		}
	}
	for _, n := range []int{-1, 4, 5, math.MinInt, math.MaxInt} {
		hold(t, []row{{"a fence's Pred", sets(n, 1), api.ErrEvent}, {"a fence's Succ", sets(1, n), api.ErrEvent}})
	}
	for _, number := range []int{beginX, loadX, scY, both0} {
		for _, n := range []int{-1, 1, 4} {
			hold(t, []row{
				{"Pred of no fence", on(number, func(v *api.Event) { v.Pred = n }), api.ErrEvent},
				{"Succ of no fence", on(number, func(v *api.Event) { v.Succ = n }), api.ErrEvent},
			})
		}
	}
}

// TestP6_1Reserved has Reserved of each Kind.
func TestP6_1Reserved(t *testing.T) {
	for number, want := range []api.Errno{
		beginX: api.ErrEvent, beginY: api.ErrEvent, lrY: api.OK, loadX: api.OK, scY: api.OK, fence0: api.ErrEvent,
		both0: api.ErrEvent, both2: api.ErrEvent, loadY: api.OK, fence2: api.ErrEvent, storeX: api.OK,
	} {
		hold(t, []row{{"Reserved", on(number, func(v *api.Event) { v.Reserved = true }), want}})
	}
	for _, number := range []int{lrY, scY} {
		hold(t, []row{{"not Reserved", on(number, func(v *api.Event) { v.Reserved = false }), api.OK}})
	}
}

// TestP6_1Deps lays each list of deps of each event that may have it.
func TestP6_1Deps(t *testing.T) {
	lists := map[string]func(v *api.Event) *[]int{
		"Addrs": func(v *api.Event) *[]int { return &v.Addrs },
		"Datas": func(v *api.Event) *[]int { return &v.Datas },
		"Ctrls": func(v *api.Event) *[]int { return &v.Ctrls },
	}
	may := map[int][]string{
		loadX: {"Addrs", "Ctrls"}, scY: {"Addrs", "Datas", "Ctrls"}, both0: {"Addrs", "Datas", "Ctrls"}, fence0: {"Ctrls"},
		loadY: {"Addrs", "Ctrls"}, storeX: {"Addrs", "Datas", "Ctrls"}, fence2: {"Ctrls"}, both2: {"Addrs", "Datas", "Ctrls"}, lrY: {"Addrs", "Ctrls"},
	}
	good := map[int][][]int{
		loadX: {nil, {}, {lrY}}, scY: {nil, {lrY}, {loadX}, {lrY, loadX}}, fence0: {{loadX}, {lrY, loadX}}, both0: {{}, {lrY}, {loadX}, {lrY, loadX}},
		lrY: {nil, {}}, both2: {nil}, loadY: {nil, {both2}}, fence2: {{both2}, {loadY}, {both2, loadY}}, storeX: {{both2, loadY}, {loadY}, {both2}},
	}
	never := [][]int{
		{-1}, {math.MinInt}, {howMany}, {math.MaxInt}, {beginX}, {beginY}, {scY}, {fence0}, {fence2}, {storeX}, // none of them loads
		{lrY, lrY}, {loadX, lrY}, {loadX, loadX}, {both2, both2}, {loadY, both2}, {loadY, loadY}, // they do not rise
		{-1, lrY}, {lrY, -1}, {beginX, lrY}, {beginY, both2}, {lrY, loadX, lrY}, {lrY, both2}, {loadX, loadY}, {lrY, howMany},
	}
	for number, names := range may {
		for _, name := range names {
			lay := func(list []int) func(e *api.Execution) {
				return on(number, func(v *api.Event) { *lists[name](v) = list })
			}
			for _, list := range good[number] {
				hold(t, []row{{name, lay(list), api.OK}})
			}
			for _, list := range never {
				hold(t, []row{{name, lay(list), api.ErrEvent}})
			}
			for itself := number; itself < howMany; itself++ { // itself, and each that is later
				hold(t, []row{{name, lay([]int{itself}), api.ErrEvent}})
			}
		}
	}
	other := map[int][]int{lrY: {both2, loadY}, loadX: {both2, loadY}, both0: {both2, loadY}, loadY: {lrY, loadX, both0}, storeX: {lrY, loadX, both0}, fence2: {lrY}}
	for number, deps := range other {
		for _, d := range deps {
			hold(t, []row{{"of another hart", on(number, func(v *api.Event) { v.Ctrls = []int{d} }), api.ErrEvent}})
		}
	}
	for number, names := range map[int][]string{beginY: {"Addrs", "Datas", "Ctrls"}, loadX: {"Datas"}, fence0: {"Addrs", "Datas"}} {
		for _, name := range names {
			hold(t, []row{{"of a Kind that has no " + name, on(number, func(v *api.Event) { *lists[name](v) = []int{lrY} }), api.ErrEvent}})
		}
	}
}

// without takes an event away, with what From has of it.
func without(e api.Execution, number int) api.Execution {
	e.Events = append(e.Events[:number], e.Events[number+1:]...)
	e.From = append(e.From[:number], e.From[number+1:]...)
	return e
}

// with lays an event ahead of a number, that reads from nothing.
func with(e api.Execution, number int, v api.Event) api.Execution {
	e.Events = append(e.Events[:number:number], append([]api.Event{v}, e.Events[number:]...)...)
	e.From = append(e.From[:number:number], append([]int{-1}, e.From[number:]...)...)
	return e
}

// accesses has two begins and two stores, with no numbers of other events in them.
func accesses() api.Execution {
	return api.Execution{
		Events: []api.Event{{Hart: -1, Kind: api.EvBegin, Addr: 4}, {Hart: -1, Kind: api.EvBegin, Addr: 8}, {Kind: api.EvStore, Addr: 4}, {Kind: api.EvStore, Addr: 8}},
		From:   []int{-1, -1, -1, -1},
		Order:  [][]int{{0, 2}, {1, 3}},
	}
}

// withBegin is accesses with an EvBegin more ahead of a number, and its list.
func withBegin(number int, addr uint32) api.Execution {
	e := with(accesses(), number, api.Event{Hart: -1, Kind: api.EvBegin, Addr: addr})
	for _, list := range e.Order {
		for i := range list {
			if list[i] >= number {
				list[i]++
			}
		}
	}
	e.Order = slices.Insert(e.Order, number, []int{number})
	return e
}

func TestP6_1Begins(t *testing.T) {
	begin := func(addr uint32) api.Event { return api.Event{Hart: -1, Kind: api.EvBegin, Addr: addr} }
	elsewhere := accesses()
	elsewhere.Events[1].Addr = 12
	unstored := without(accesses(), 3)
	unstored.Order[1] = []int{1}
	swapped := accesses()
	swapped.Events[0], swapped.Events[1] = swapped.Events[1], swapped.Events[0]
	for _, r := range []struct {
		name string
		e    api.Execution
		want api.Errno
	}{
		{"as it is", accesses(), api.OK},
		{"the first is missing", without(accesses(), 0), api.ErrEvent},
		{"the second is missing", without(accesses(), 1), api.ErrEvent},
		{"both are missing", without(without(accesses(), 0), 0), api.ErrEvent},
		{"the first twice", with(accesses(), 1, begin(4)), api.ErrEvent},
		{"the second twice", with(accesses(), 2, begin(8)), api.ErrEvent},
		{"the first again behind the second", with(accesses(), 2, begin(4)), api.ErrEvent},
		{"of an address that it alone has, ahead", withBegin(0, 0), api.OK},
		{"of an address that it alone has, behind", withBegin(2, 12), api.OK},
		{"of the last address, that it alone has", withBegin(2, 1<<32-4), api.OK},
		{"of an address that it alone has, out of order", withBegin(0, 12), api.ErrEvent},
		{"of an address that it alone has, no multiple of 4", withBegin(2, 13), api.ErrEvent},
		{"of an address that it alone has, without its list", with(accesses(), 2, begin(12)), api.ErrOrder},
		{"of an address that it alone has, in place of one that is used", elsewhere, api.ErrEvent},
		{"of an address that it alone has, twice", with(withBegin(2, 12), 3, begin(12)), api.ErrEvent},
		{"of an address that it alone has, behind an event", with(accesses(), 3, begin(12)), api.ErrEvent},
		{"of an address that a fence seems to have", with(withBegin(0, 0), 5, api.Event{Kind: api.EvFence}), api.OK},
		{"out of order", swapped, api.ErrEvent},
		{"the second behind an event", without(with(accesses(), 3, begin(8)), 1), api.ErrEvent},
		{"the second behind all events", without(with(accesses(), 4, begin(8)), 1), api.ErrEvent},
		{"the first behind all events", without(with(accesses(), 4, begin(4)), 0), api.ErrEvent},
		{"one more behind all events", with(accesses(), 4, begin(8)), api.ErrEvent},
		{"a store too few, that its list tells", without(accesses(), 3), api.ErrOrder},
		{"a store too few, that no list tells", unstored, api.OK},
		{"a fence, which needs none", with(accesses(), 4, api.Event{Kind: api.EvFence}), api.OK},
		{"a store of an address more", with(accesses(), 4, api.Event{Kind: api.EvStore, Addr: 12}), api.ErrEvent},
		{"a load of an address more", with(accesses(), 4, api.Event{Kind: api.EvLoad, Addr: 12}), api.ErrEvent},
		{"an EvBoth of an address more", with(accesses(), 4, api.Event{Kind: api.EvBoth, Addr: 12}), api.ErrEvent},
	} {
		if err := events.Check(r.e); err != r.want {
			t.Errorf("%s: %v, want %v", r.name, err, r.want)
		}
	}
	high := accesses()
	for i := range high.Events {
		high.Events[i].Addr += 1<<31 - 8 // the first is below 2^31, the second is it
	}
	if err := events.Check(high); err != api.OK {
		t.Errorf("addresses rise as words without a sign: %v", err)
	}
}

// begins is an execution of so many EvBegin, each of an address that it alone has.
func begins(many int) (e api.Execution) {
	for number := range many {
		e.Events = append(e.Events, api.Event{Hart: -1, Kind: api.EvBegin, Addr: uint32(4 * number), Value: uint32(number % 2)})
		e.From = append(e.From, -1)
		e.Order = append(e.Order, []int{number})
	}
	return e
}

// TestP6_1BeginsAlone has no event but EvBegin: each has its own address, so none needs another event.
func TestP6_1BeginsAlone(t *testing.T) {
	from := func(l ...int) func(e *api.Execution) { return func(e *api.Execution) { e.From = l } }
	order := func(l ...[]int) func(e *api.Execution) { return func(e *api.Execution) { e.Order = l } }
	for _, r := range []struct {
		name   string
		many   int
		change func(e *api.Execution)
		want   api.Errno
	}{
		{"one", 1, from(-1), api.OK},
		{"one, that has a Value", 1, func(e *api.Execution) { e.Events[0].Value = 1 << 31 }, api.OK},
		{"one, not of the address 0", 1, func(e *api.Execution) { e.Events[0].Addr = 1<<32 - 4 }, api.OK},
		{"one, no multiple of 4", 1, func(e *api.Execution) { e.Events[0].Addr = 2 }, api.ErrEvent},
		{"one, of a hart", 1, func(e *api.Execution) { e.Events[0].Hart = 0 }, api.ErrEvent},
		{"one, neither From nor Order", 1, func(e *api.Execution) { e.From, e.Order = []int{}, [][]int{} }, api.ErrFrom},
		{"one, no From", 1, from(), api.ErrFrom},
		{"one, From itself", 1, from(0), api.ErrFrom},
		{"one, From too long", 1, from(-1, -1), api.ErrFrom},
		{"one, no Order", 1, order(), api.ErrOrder},
		{"one, an empty list", 1, order(nil), api.ErrOrder},
		{"one, a list too many", 1, order([]int{0}, []int{0}), api.ErrOrder},
		{"one, twice in its list", 1, order([]int{0, 0}), api.ErrOrder},
		{"one, a list of what is not there", 1, order([]int{1}), api.ErrOrder},
		{"two", 2, from(-1, -1), api.OK},
		{"two of one address", 2, func(e *api.Execution) { e.Events[1].Addr = 0 }, api.ErrEvent},
		{"two, falling", 2, func(e *api.Execution) { e.Events[0].Addr = 8 }, api.ErrEvent},
		{"two, From one another", 2, from(1, 0), api.ErrFrom},
		{"two, one list", 2, order([]int{0, 1}), api.ErrOrder},
		{"two, their lists falling", 2, order([]int{1}, []int{0}), api.ErrOrder},
		{"MaxEvents", api.MaxEvents, func(*api.Execution) {}, api.OK},
		{"one more", api.MaxEvents + 1, func(*api.Execution) {}, api.ErrLong},
	} {
		e := begins(r.many)
		r.change(&e)
		if err := events.Check(e); err != r.want {
			t.Errorf("%s: %v, want %v", r.name, err, r.want)
		}
		for i, l := range relations(e) { // one store an address is ahead of none, and EvBegin are in no program order
			if len(l) != 0 {
				t.Errorf("%s: relation %d has %v", r.name, i, l)
			}
		}
	}
}

func TestP6_1From(t *testing.T) {
	from := func(number, of int) func(e *api.Execution) {
		return func(e *api.Execution) { e.From[number] = of }
	}
	rows := []row{
		{"too few", func(e *api.Execution) { e.From = e.From[:howMany-1] }, api.ErrFrom},
		{"too many", func(e *api.Execution) { e.From = append(e.From, -1) }, api.ErrFrom},
		{"none", func(e *api.Execution) { e.From = nil }, api.ErrFrom},
		{"of another address", from(loadX, beginY), api.ErrFrom},
		{"of another address, and its Value", func(e *api.Execution) { e.From[loadX], e.Events[beginY].Value = beginY, 5 }, api.ErrFrom},
		{"of one that does not store", from(loadX, lrY), api.ErrFrom},
		{"of a load of the address and the value", func(e *api.Execution) { e.From[lrY], e.Events[loadY].ReadValue = loadY, 7 }, api.ErrFrom},
		{"of a fence", func(e *api.Execution) { e.Events[both2].ReadValue, e.From[both2] = 0, fence0 }, api.ErrFrom},
		{"of another Value", from(loadX, beginX), api.ErrFrom},
		{"of another Value, an EvBoth", from(both0, beginX), api.ErrFrom},
		{"of an EvBoth's ReadValue", func(e *api.Execution) { e.From[both2], e.Events[both2].ReadValue = both0, 5 }, api.ErrFrom},
		{"another ReadValue", on(loadX, func(v *api.Event) { v.ReadValue++ }), api.ErrFrom},
		{"another Value of what is read", on(beginY, func(v *api.Event) { v.Value++ }), api.ErrFrom},
		{"of one that comes later in its hart", func(e *api.Execution) { e.From[loadX], e.Events[loadX].ReadValue = both0, 6 }, api.OK},
		{"of one that comes ahead in its hart", func(e *api.Execution) {
			e.From[loadY], e.Events[loadY].Addr, e.Events[loadY].ReadValue = both2, x, 5
		}, api.OK},
		{"an EvBoth from an EvBoth", from(both0, both2), api.OK},
		{"of a store of that Value elsewhere in its list", func(e *api.Execution) { e.From[both2], e.Events[both2].ReadValue = storeX, 1 }, api.OK},
		{"an EvBoth from itself", func(e *api.Execution) { e.From[both0], e.Events[both0].ReadValue = both0, 6 }, api.ErrFrom},
		{"another EvBoth from itself", func(e *api.Execution) { e.From[both2], e.Events[both2].Value = both2, 0 }, api.ErrFrom},
		{"a load from itself", from(loadX, loadX), api.ErrFrom},
	}
	for _, number := range []int{lrY, loadX, both0, both2, loadY} {
		for _, of := range []int{-1, -2, math.MinInt, howMany, math.MaxInt} {
			rows = append(rows, row{"of what is not there", from(number, of), api.ErrFrom})
		}
	}
	for _, number := range []int{beginX, beginY, scY, fence0, fence2, storeX} {
		for _, of := range []int{beginX, -2, number, both2, howMany, math.MaxInt} {
			rows = append(rows, row{"of what does not load", from(number, of), api.ErrFrom})
		}
	}
	hold(t, rows)
}

func TestP6_1Order(t *testing.T) {
	order := func(l ...[]int) func(e *api.Execution) { return func(e *api.Execution) { e.Order = l } }
	ofX := []int{beginX, both2, both0, storeX}
	ofY := []int{beginY, scY}
	hold(t, []row{
		{"as it is", order(ofX, ofY), api.OK},
		{"none", order(), api.ErrOrder},
		{"the first alone", order(ofX), api.ErrOrder},
		{"the second alone", order(ofY), api.ErrOrder},
		{"one too many, empty", order(ofX, ofY, nil), api.ErrOrder},
		{"one too many, ahead", order(nil, ofX, ofY), api.ErrOrder},
		{"one too many, the same", order(ofX, ofY, ofY), api.ErrOrder},
		{"out of order", order(ofY, ofX), api.ErrOrder},
		{"the first twice", order(ofX, ofX), api.ErrOrder},
		{"the first empty", order(nil, ofY), api.ErrOrder},
		{"the second empty", order(ofX, []int{}), api.ErrOrder},
		{"otherwise", order([]int{beginX, storeX, both0, both2}, ofY), api.OK},
		{"otherwise again", order([]int{beginX, both0, storeX, both2}, ofY), api.OK},
		{"the begin is second", order([]int{both2, beginX, both0, storeX}, ofY), api.ErrOrder},
		{"the begin is last", order(ofX, []int{scY, beginY}), api.ErrOrder},
		{"the begin is missing", order([]int{both2, both0, storeX}, ofY), api.ErrOrder},
		{"another one's begin", order([]int{beginY, both2, both0, storeX}, []int{beginX, scY}), api.ErrOrder},
		{"one is missing", order([]int{beginX, both2, both0}, ofY), api.ErrOrder},
		{"the begin alone", order(ofX, []int{beginY}), api.ErrOrder},
		{"one twice", order([]int{beginX, both2, both0, storeX, storeX}, ofY), api.ErrOrder},
		{"one twice, one missing", order([]int{beginX, both2, both0, both0}, ofY), api.ErrOrder},
		{"the begin twice, one missing", order([]int{beginX, both2, both0, beginX}, ofY), api.ErrOrder},
		{"the begin twice, one missing, of two", order(ofX, []int{beginY, beginY}), api.ErrOrder},
		{"one of another address more", order([]int{beginX, both2, both0, storeX, scY}, ofY), api.ErrOrder},
		{"one of another address in its place", order([]int{beginX, both2, both0, scY}, []int{beginY, storeX}), api.ErrOrder},
		{"a load more", order(ofX, []int{beginY, scY, lrY}), api.ErrOrder},
		{"a load in its place", order(ofX, []int{beginY, lrY}), api.ErrOrder},
		{"a fence in its place", order([]int{beginX, both2, both0, fence0}, ofY), api.ErrOrder},
		{"below 0", order(ofX, []int{beginY, -1}), api.ErrOrder},
		{"below 0, first", order(ofX, []int{-1, scY}), api.ErrOrder},
		{"far below 0", order(ofX, []int{beginY, math.MinInt}), api.ErrOrder},
		{"not there", order(ofX, []int{beginY, howMany}), api.ErrOrder},
		{"far from there", order(ofX, []int{beginY, math.MaxInt}), api.ErrOrder},
		{"a long one", order(make([]int, 1<<16), ofY), api.ErrOrder},
	})
}
