package track

// queue gives back what is put into it, the least first.
type queue[T any] interface {
	put(x T)
	take() (T, bool)
}

// pile is a queue that is a heap: no item is less than the one at half its place.
type pile[T any] struct {
	items   []T
	compare func(a, b T) int
}

func (p *pile[T]) put(x T) {
	p.items = append(p.items, x)
	for i := len(p.items) - 1; i > 0 && p.less(i, (i-1)/2); i = (i - 1) / 2 {
		p.swap(i, (i-1)/2)
	}
}

func (p *pile[T]) take() (T, bool) {
	var none T
	if len(p.items) == 0 {
		return none, false
	}
	least, last := p.items[0], len(p.items)-1
	p.items[0], p.items[last] = p.items[last], none
	p.items = p.items[:last]
	p.sink()
	return least, true
}

// sink brings the first item to where it belongs.
func (p *pile[T]) sink() {
	for i := 0; 2*i+1 < len(p.items); {
		child := 2*i + 1
		if child+1 < len(p.items) && p.less(child+1, child) {
			child++
		}
		if !p.less(child, i) {
			return
		}
		p.swap(i, child)
		i = child
	}
}

func (p *pile[T]) less(i, j int) bool { return p.compare(p.items[i], p.items[j]) < 0 }

func (p *pile[T]) swap(i, j int) { p.items[i], p.items[j] = p.items[j], p.items[i] }
