package graph

// todo is things that are yet to be done.
type todo[T any] []T

// put puts one more to them.
func (d *todo[T]) put(x T) { *d = append(*d, x) }

// take takes out the one that was put to them last; there is one.
func (d *todo[T]) take() T {
	last := len(*d) - 1
	x := (*d)[last]
	*d = (*d)[:last]
	return x
}
