package store

// nowhere: no volume that there is.
const nowhere = -1

// sizes of all volumes in bytes.
func (h *house) sizes() []int {
	var l []int
	for _, v := range h.d.Volumes {
		l = append(l, len(v.Data))
	}
	return l
}

// end of a volume, which may be one that is to be begun.
func (h *house) end(n int) int {
	if n == len(h.d.Volumes) {
		return 0
	}
	return len(h.d.Volumes[n].Data)
}
