package litmus

// look is how far what an event stores has been looked for.
type look int

const (
	notYet look = iota
	under       // it is being looked for
	found
)

// round is what looking leaves by, where a value hangs on itself.
type round struct{}

// values tells what each event of a plan stores, where each one reads as it may; false, where a value hangs on itself.
func (p *plan) values(from []int) (stored []uint32, ok bool) {
	defer func() {
		if _, gaveUp := recover().(round); gaveUp {
			stored, ok = nil, false
		}
	}()
	stored = make([]uint32, len(p.sums))
	looks := make([]look, len(p.sums))
	var find func(number int) uint32
	find = func(number int) uint32 {
		switch looks[number] {
		case under:
			panic(round{})
		case found:
			return stored[number]
		}
		looks[number] = under
		value := p.sums[number].number
		for _, load := range p.sums[number].loaded {
			value += find(from[load])
		}
		stored[number], looks[number] = value, found
		return value
	}
	for number := range p.sums {
		find(number)
	}
	return stored, true
}
