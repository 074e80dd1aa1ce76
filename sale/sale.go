// Package sale: a sale of few units to many customers: see DOC.md.
package sale

import "sale/api"

// Sale is a sale that goes on.
type Sale struct{}

// Open opens a sale (P9).
func Open(c api.Config) (*Sale, api.Errno) { return nil, api.OK }

// Send answers a frame (P10 to P14).
func (s *Sale) Send(b []byte) api.Reply { return api.Reply{} }

// Books tells of the units, the orders that wait, the answers that are remembered (P15).
func (s *Sale) Books() api.Books { return api.Books{} }

// Account tells of a customer's units (P15).
func (s *Sale) Account(customer int) (api.Account, api.Errno) { return api.Account{}, api.OK }

// Tick lets time go by (P16).
func (s *Sale) Tick(n int) (int, api.Errno) { return 0, api.OK }

// Clock tells the time (P16).
func (s *Sale) Clock() int { return 0 }
