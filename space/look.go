package space

import (
	"slices"

	"hartix/api"
	"hartix/sv39"
)

// Look tells its frames (P8.13).
func (s *Space) Look() (nodes []uint64, pages []api.PageLook) {
	if !s.made() {
		return nil, nil
	}
	nodes = sv39.Nodes(s.memory, s.root)
	slices.Sort(nodes)
	for va, leaf := range sv39.Leaves(s.memory, s.root) {
		if va >= api.UserTop {
			break
		}
		pages = append(pages, api.PageLook{
			Page:  va / api.PageSize,
			Frame: frameOf(leaf),
			Perm:  leaf & (api.PteUser | api.PteU),
		})
	}
	return nodes, pages
}
